/- Merged of RsK RsL. Conditions: as each says. -/
import Derived.Test.YtdcclighccejhaaRvGr
import Derived.ArgAppend
/- ReorderKnown: what its loops need. Conditions: acs each says. -/
set_option linter.unusedVariables false
set_option linter.unusedSimpArgs false
namespace Go.Proofs.Ytdcclighccejhaa
open Go Go.RowKit

theorem wpList_load_midW {P : Program} {ops : Array Oper} {rest : List Oper} {op : Oper} {a : Act} {w : World} {Q : Exit → Act → World → Prop} (hw : Region.wanted op (yielded ops a.tmps) = true) (ty : TypeId) (x : Operand) (ho : op.op = .load ty x)
    (b o : Nat) (hx : a.eval x = .pointer (some ⟨b, o, none⟩)) (cs : List Value) (d : TypeDesc) (hc : w.rangeAt b o cs)
    (hu : P.underlying ty = some d) (hd : d.isRow = true) (hi : (P.info? ty).map (·.size) = some cs.length)
    (h : wpList P ops Q rest (a.put op.dst (.agg cs.toArray)) w) : wpList P ops Q (op :: rest) a w :=
  wpList_want hw fun _ hK => wp_load_mid ty x ho b o hx cs d hc hu hd hi (hK _ _ h)
theorem wpList_append_growsW {P : Program} (w : World) {ops : Array Oper} {rest : List Oper} {o : Oper} {a : Act} {Q : Exit → Act → World → Prop}
    (hw : Region.wanted o (yielded ops a.tmps) = true) (s x : Operand) (t : TypeId) (hop : o.op = Op.call { callee := Callee.builtin Builtin.append, args := #[s, x], argTypes := #[t, t] })
    (e : TypeId) (i : TypeInfo) (z : Value) (size bytes : Nat) (h1 : P.underlying t = some (.slice e)) (h2 : P.info? e = some i) (h3 : i.zero = some z) (h4 : i.size = size) (h5 : i.bytes = bytes) (h6 : z.cells.size = size) (h7 : 0 < size)
    (b : Addr) (n cap : Nat) (olds : List Value) (hs : a.eval s = .slice (some b) n cap) (hlo : olds.length = n * size) (holds : ∀ j u, olds[j]? = some u → w.cell? (b.add j) = some u)
    (ad : Addr) (m c : Nat) (news : List Value) (hx : a.eval x = .slice (some ad) m c) (hn : news.length = m * size) (hc : ∀ j u, news[j]? = some u → w.cell? (ad.add j) = some u)
    (hfull : cap < n + m) (b1 : n + m ≤ maxLen) (b2 : (n + m) * bytes ≤ 140737488355328)
    (hK : ∀ v' w', w'.ownsRow w.heap.size e size v' (n + m) (olds ++ news) → w.grownBy w' none → wpList P ops Q rest (a.put o.dst v') w') :
    wpList P ops Q (o :: rest) a w := by
  refine wpList_want hw fun K hK' => ?_
  obtain ⟨v', w', hrun, r1, r2⟩ := run_append_arg_grows (P := P) w t o.type e i z size bytes h1 h2 h3 h4 h5 h6 h7 b n cap olds hlo holds ad m c news hn hc hfull b1 b2
  unfold Oper.wp
  simp [execOp, hop, resolve, invoke, builtin, hs, hx, hrun, Result.andThen]
  exact hK' _ _ (hK v' w' r1 r2)
theorem built_ac (d n a : Int) (c0 c1 c2 c3 c4 c5 c6 c7 c8 c9 c10 : Value) : Try.prog.built 44 [(0, .int .i64 d), (1, .int .u64 n), (2, .int .u64 a), (3, .agg #[c0, c1, c2, c3, c4, c5, c6, c7, c8, c9, c10])] = some #[.int .i64 d, .int .u64 n, .int .u64 a, c0, c1, c2, c3, c4, c5, c6, c7, c8, c9, c10] := by kernel_rfl
/-- Calls whose packets are such by numbers. -/
def AcOk (acs : List Ac) (ui : List V3) (w : World) : Prop := ui.length = acs.length ∧ ∀ (j : Nat) (a : Ac) (u : V3), acs[j]? = some a → ui[j]? = some u → a.Fit ∧ ∃ kk g, a.p = pkN kk ∧ u = (.slice none 0 0, .slice none 0 0, .slice (some ⟨g, 0, none⟩) 2 2) ∧ Is w g 5 #[.int .u8 ((kk % 256 : Nat) : Int), .int .u8 1]
theorem AcOk.off {acs : List Ac} {ui : List V3} {w w1 : World} {S : Nat → Prop} (h : AcOk acs ui w) (ho : Only S w w1) (hs : ∀ g cs, Is w g 5 cs → ¬ S g) : AcOk acs ui w1 := ⟨h.1, fun j a u ha hu => by
  obtain ⟨hf, kk, g, h1, h2, h3⟩ := h.2 j a u ha hu
  exact ⟨hf, kk, g, h1, h2, h3.only ho (hs g _ h3)⟩⟩
theorem AcOk.pure {acs : List Ac} {ui : List V3} {w w1 : World} (h : AcOk acs ui w) (ho : Only (fun _ => False) w w1) : AcOk acs ui w1 := h.off ho (fun _ _ _ e => e)
theorem AcOk.snoc {acs : List Ac} {ui : List V3} {w : World} (h : AcOk acs ui w) {a : Ac} {kk g : Nat} (hf : a.Fit) (hp : a.p = pkN kk) (hi : Is w g 5 #[.int .u8 ((kk % 256 : Nat) : Int), .int .u8 1]) : AcOk (acs ++ [a]) (ui ++ [(.slice none 0 0, .slice none 0 0, .slice (some ⟨g, 0, none⟩) 2 2)]) w := by
  refine ⟨by rw [List.length_append, List.length_append, h.1]; rfl, fun j c x hc hx => ?_⟩
  have hl := h.1
  rcases ins_lists hc with ⟨g1, g2⟩ | ⟨g1, g2⟩
  · rcases ins_lists hx with ⟨g3, -⟩ | ⟨g3, -⟩
    · exact h.2 j c x g1 g3
    · omega
  · rcases ins_lists hx with ⟨-, g3⟩ | ⟨-, g4⟩
    · omega
    · rw [g2, g4]
      exact ⟨hf, kk, g, hp, rfl, hi⟩
theorem AcOk.nil (w : World) : AcOk [] [] w := ⟨rfl, fun j a u hj => by simp at hj⟩
theorem pkN_ok (k g : Nat) (w : World) (h : Is w g 5 #[.int .u8 ((k % 256 : Nat) : Int), .int .u8 1]) : RdU (pkN k) (.slice none 0 0, .slice none 0 0, .slice (some ⟨g, 0, none⟩) 2 2) w :=
  ⟨⟨Rd.nil _ _, .inl ⟨rfl, rfl⟩, GotN.src h, ⟨_, _, _, rfl⟩⟩, .inl rfl⟩
theorem pkN_b (k : Nat) : BFit (pkN k) := ⟨by simp [pkN], fun x hx => by
  have : x = k % 256 ∨ x = 1 := by simpa [pkN] using hx
  omega⟩
theorem pkN_lit (k g : Nat) : (pkN k).cls (.slice none 0 0) (.slice none 0 0) (.slice (some ⟨g, 0, none⟩) 2 2) = #[.bool false, .int .u8 0, .int .u16 ((k % 65536 : Nat) : Int), .int .u32 0, .int .u32 0, .slice none 0 0, .bool false, .int .u16 0, .slice none 0 0, .slice (some ⟨g, 0, none⟩) 2 2, .int .u8 0] := rfl
theorem AcOk.rd {acs : List Ac} {ui : List V3} {w : World} (h : AcOk acs ui w) : (∀ a ∈ acs, a.Fit ∧ BFit a.p) ∧ ∀ (j : Nat) (a : Ac) (u : V3), acs[j]? = some a → ui[j]? = some u → RdU a.p u w := by
  refine ⟨fun a ha => ?_, fun j a u hj hu => ?_⟩
  · obtain ⟨j, hj⟩ := List.getElem?_of_mem ha
    have hl : j < ui.length := by rw [h.1]; exact (List.getElem?_eq_some_iff.1 hj).1
    obtain ⟨hf, kk, g, h1, -, -⟩ := h.2 j a _ hj (List.getElem?_eq_getElem hl)
    rw [h1]
    exact ⟨hf, pkN_b kk⟩
  · obtain ⟨hf, kk, g, h1, h2, h3⟩ := h.2 j a u hj hu
    rw [h1, h2]
    exact pkN_ok kk g w h3
theorem zip14 (acs : List Ac) (ui : List V3) : ∀ xs ∈ List.zipWith Ac.cls acs ui, xs.length = 14 := by
  intro xs hxs
  obtain ⟨q, hq⟩ := List.getElem?_of_mem hxs
  rw [List.getElem?_zipWith] at hq
  cases h1 : acs[q]? with
  | none => rw [h1] at hq; simp at hq
  | some c =>
    cases h2 : ui[q]? with
    | none => rw [h1, h2] at hq; simp at hq
    | some x =>
      rw [h1, h2] at hq
      have e : c.cls x = xs := by simpa using hq
      rw [← e]
      exact Ac.cls_length c x
theorem AcOk.cons {acs : List Ac} {ui : List V3} {w : World} (h : AcOk acs ui w) {a : Ac} {u : V3} (ha : acs[1]? = some a) (hu : ui[1]? = some u) : AcOk (a :: acs) (u :: ui) w := by
  refine ⟨by simp [h.1], fun j c x hc hx => ?_⟩
  cases j with
  | zero =>
    have e1 : a = c := by simpa using hc
    have e2 : u = x := by simpa using hx
    rw [← e1, ← e2]
    exact h.2 1 a u ha hu
  | succ j => exact h.2 j c x (by simpa using hc) (by simpa using hx)
theorem rdas_is {w : World} {g : Nat} {acs : List Ac} {ui : List V3} (h : Is w g 44 (List.zipWith Ac.cls acs ui).flatten.toArray) (hl : ui.length = acs.length) (hu : ∀ (j : Nat) (a : Ac) (u : V3), acs[j]? = some a → ui[j]? = some u → RdU a.p u w) : RdAs w (.slice (some ⟨g, 0, none⟩) acs.length acs.length) acs ui := by
  refine ⟨⟨_, _, rfl, Nat.le_refl _⟩, hl, fun i a u ha hx => ⟨⟨g, 0, _, _, rfl, fun j z hj => ?_⟩, hu i a u ha hx⟩⟩
  have hjl : j < 14 := by rw [← Ac.cls_length a u]; exact (List.getElem?_eq_some_iff.1 hj).1
  rw [Nat.zero_add, h.cell, List.getElem?_toArray, flat_get (sz := 14) _ (fun xs hxs => ?_) i j (a.cls u) (by rw [List.getElem?_zipWith, ha, hx]) hjl, hj]
  obtain ⟨q, hq⟩ := List.getElem?_of_mem hxs
  rw [List.getElem?_zipWith] at hq
  cases h1 : acs[q]? with
  | none => rw [h1] at hq; simp at hq
  | some c =>
    cases h2 : ui[q]? with
    | none => rw [h1, h2] at hq; simp at hq
    | some x =>
      rw [h1, h2] at hq
      have e : c.cls x = xs := by simpa using hq
      rw [← e]
      exact Ac.cls_length c x
theorem fit_nat {d : Int} (h : 0 ≤ d ∧ d < 9223372036854775808) : (Lit.int .i64 d).wf = true := by
  simp [Lit.wf, IntKind.min, IntKind.max, IntKind.signed, IntKind.bits]
  omega
noncomputable def rk10_code : Code := ((Try.f6.body.bind (codeRegion 10)).getD .skip)
set_option maxRecDepth 100000 in
set_option maxHeartbeats 8000000 in
theorem rk10 (As : Option Addr) (i cs k T D NN B : Nat) (rows : List (List Value)) (u0 u1 u6 u7 u8 u9 u10 u11 u12 u13 u14 u15 u16 u17 u18 u19 u20 u21 u22 u23 u24 u25 u26 u27 u28 u29 u30 u31 u32 u33 u34 u35 u36 u37 u38 u39 u40 u41 u42 u43 u44 u45 u46 u47 u48 u49 u50 u51 u52 u53 u54 u55 u56 u57 u58 u59 u60 u61 u62 u63 u64 u65 u66 u67 u68 u69 u70 u71 u72 u73 u74 u75 u76 u77 u78 u79 u80 u81 u82 u83 u84 u85 u86 u87 u88 u89 u90 u91 u92 u93 u94 u95 u96 u97 u98 u99 u100 u101 u102 u103 u104 u105 u106 u107 u108 u109 u110 u111 u112 u113 : Value) (w : World) (QX : Exit → Act → World → Prop) (hk : k < 10007) (hi : i < 24) (hD : D = (k + i) % 9) (hNN : NN = 20 + i + k % 7 - k / 7 % 5)
    (hS : OwnS w B 44 14 (.slice As i cs) rows) (hr : rows.length ≤ 100) (hB : B ≤ w.heap.size)
    (hend : ∀ (v7 y21 y22 y23 y24 y25 y26 y27 y28 y29 y30 y31 y32 y33 y34 y35 y36 y37 y38 y39 y40 y41 y42 : Value) (g : Nat) (w5 w7 : World), w.heap.size ≤ g → Is w5 g 5 #[.int .u8 ((k % 256 : Nat) : Int), .int .u8 1] → Only (fun _ => False) w w5 → OwnS w7 B 44 14 v7 (rows ++ [[.int .i64 (D : Int), .int .u64 (NN : Int), .int .u64 (T : Int), .bool false, .int .u8 0, .int .u16 ((k % 65536 : Nat) : Int), .int .u32 0, .int .u32 0, .slice none 0 0, .bool false, .int .u16 0, .slice none 0 0, .slice (some ⟨g, 0, none⟩) 2 2, .int .u8 0]]) → Only (fun j => (Value.slice As i cs).ownBlock = some j) (w5.alloc (.cells #[.int .i64 (D : Int), .int .u64 (NN : Int), .int .u64 (T : Int), .bool false, .int .u8 0, .int .u16 ((k % 65536 : Nat) : Int), .int .u32 0, .int .u32 0, .slice none 0 0, .bool false, .int .u16 0, .slice none 0 0, .slice (some ⟨g, 0, none⟩) 2 2, .int .u8 0] 44)) w7 → QX .normal ⟨(List.toArray (u0 :: u1 :: v7 :: .int .i64 (k : Int) :: .int .u64 (T : Int) :: .int .i64 (i : Int) :: u6 :: u7 :: u8 :: u9 :: u10 :: u11 :: u12 :: u13 :: u14 :: u15 :: u16 :: u17 :: u18 :: u19 :: u20 :: y21 :: y22 :: y23 :: y24 :: y25 :: y26 :: y27 :: y28 :: y29 :: y30 :: y31 :: y32 :: y33 :: y34 :: y35 :: y36 :: y37 :: y38 :: y39 :: y40 :: y41 :: y42 :: u43 :: u44 :: u45 :: u46 :: u47 :: u48 :: u49 :: u50 :: u51 :: u52 :: u53 :: u54 :: u55 :: u56 :: u57 :: u58 :: u59 :: u60 :: u61 :: u62 :: u63 :: u64 :: u65 :: u66 :: u67 :: u68 :: u69 :: u70 :: u71 :: u72 :: u73 :: u74 :: u75 :: u76 :: u77 :: u78 :: u79 :: u80 :: u81 :: u82 :: u83 :: u84 :: u85 :: u86 :: u87 :: u88 :: u89 :: u90 :: u91 :: u92 :: u93 :: u94 :: u95 :: u96 :: u97 :: u98 :: u99 :: u100 :: u101 :: u102 :: u103 :: u104 :: u105 :: u106 :: u107 :: u108 :: u109 :: u110 :: u111 :: u112 :: u113 :: [])), []⟩ w7) :
    Code.wp Try.prog rk10_code QX ⟨(List.toArray (u0 :: u1 :: .slice As i cs :: .int .i64 (k : Int) :: .int .u64 (T : Int) :: .int .i64 (i : Int) :: u6 :: u7 :: u8 :: u9 :: u10 :: u11 :: u12 :: u13 :: u14 :: u15 :: u16 :: u17 :: u18 :: u19 :: u20 :: u21 :: u22 :: u23 :: u24 :: u25 :: u26 :: u27 :: u28 :: u29 :: u30 :: u31 :: u32 :: u33 :: u34 :: u35 :: u36 :: u37 :: u38 :: u39 :: u40 :: u41 :: u42 :: u43 :: u44 :: u45 :: u46 :: u47 :: u48 :: u49 :: u50 :: u51 :: u52 :: u53 :: u54 :: u55 :: u56 :: u57 :: u58 :: u59 :: u60 :: u61 :: u62 :: u63 :: u64 :: u65 :: u66 :: u67 :: u68 :: u69 :: u70 :: u71 :: u72 :: u73 :: u74 :: u75 :: u76 :: u77 :: u78 :: u79 :: u80 :: u81 :: u82 :: u83 :: u84 :: u85 :: u86 :: u87 :: u88 :: u89 :: u90 :: u91 :: u92 :: u93 :: u94 :: u95 :: u96 :: u97 :: u98 :: u99 :: u100 :: u101 :: u102 :: u103 :: u104 :: u105 :: u106 :: u107 :: u108 :: u109 :: u110 :: u111 :: u112 :: u113 :: [])), []⟩ w := by
  conv => arg 2; whnf
  have HPK := Lib.hid (fun w1 => packet_is k w1)
  have S := Lib.hid hS
  have HEND := Lib.hid hend
  have HB := Lib.hid (And.intro hr hB)
  have e1 : IntKind.u64.wrap (k : Int) = (k : Int) := by rw [IntKind.wrap_u64]; omega
  have e3 : ((k : Int) + (i : Int)) % 9 = (D : Int) := by omega
  have e4 : IntKind.u64.wrap (20 + (i : Int) + (k : Int) % 7 - (k : Int) / 7 % 5) = (NN : Int) := by rw [IntKind.wrap_u64, show 20 + (i : Int) + (k : Int) % 7 - (k : Int) / 7 % 5 = (NN : Int) from by omega]; omega
  clear hS hend hr hB hD hNN
  go_wp2_with fail
  refine (HPK.out _).mono ?_
  rintro e w5 ⟨g, rfl, hg, hgi, ho5⟩
  have G5 := Lib.hid (And.intro hg (And.intro hgi ho5))
  have S5 := Lib.hid (S.out.only ho5 (by simp))
  have HB5 := Lib.hid (show B ≤ w5.heap.size from Nat.le_trans HB.out.2 ho5.size)
  rw [e3]
  have HBT := Lib.hid (built_ac (D : Int) (NN : Int) (T : Int) (.bool false) (.int .u8 0) (.int .u16 ((k % 65536 : Nat) : Int)) (.int .u32 0) (.int .u32 0) (.slice none 0 0) (.bool false) (.int .u16 0) (.slice none 0 0) (.slice (some ⟨g, 0, none⟩) 2 2) (.int .u8 0))
  clear hg hgi ho5 e3 e4 e1
  dsimp only
  go_wp2_with (first
    | ((with_reducible refine wpList_build_p (o := ⟨some 40, _, _, _, _, _⟩) rfl 44 _ rfl #[.int .i64 (D : Int), .int .u64 (NN : Int), .int .u64 (T : Int), .bool false, .int .u8 0, .int .u16 ((k % 65536 : Nat) : Int), .int .u32 0, .int .u32 0, .slice none 0 0, .bool false, .int .u16 0, .slice none 0 0, .slice (some ⟨g, 0, none⟩) 2 2, .int .u8 0] ?_ ?_); (refine (congrArg (Program.built Try.prog 44) ?_).trans HBT.out; simp [Act.eval, pkN_lit]))
    | (at_builtin; refine wpList_append_struct _ rfl _ _ sty_ac rfl B _ _ rfl (OwnS.only S5.out ((Only.refl (fun _ => False) _).alloc _) (by simp)) w5.heap.size [.int .i64 (D : Int), .int .u64 (NN : Int), .int .u64 (T : Int), .bool false, .int .u8 0, .int .u16 ((k % 65536 : Nat) : Int), .int .u32 0, .int .u32 0, .slice none 0 0, .bool false, .int .u16 0, .slice none 0 0, .slice (some ⟨g, 0, none⟩) 2 2, .int .u8 0] rfl (Is.made w5 _ _) rfl (by simp [Value.oneCell']) (by have := HB.out.1; omega) (by decide) (by simp; have := HB5.out; omega) ?_; intro v7 w7 hS7 hO7; have S7 := Lib.hid (And.intro hS7 hO7); clear hS7 hO7))
  exact HEND.out _ _ _ _ _ _ _ _ _ _ _ _ _ _ _ _ _ _ _ _ _ _ _ _ _ _ G5.out.1 G5.out.2.1 G5.out.2.2 S7.out.1 S7.out.2

end Go.Proofs.Ytdcclighccejhaa

/- ReorderKnown's walk. Conditions: as it says. -/
set_option linter.unusedVariables false
set_option linter.unusedSimpArgs false
namespace Go.Proofs.Ytdcclighccejhaa
open Go Go.RowKit

set_option maxRecDepth 100000 in
set_option maxHeartbeats 8000000 in
theorem known_walk (w : World) : Calls Try.prog 6 #[] w (SaysO (.bool true) w) := by
  go_enter Try.func6, Try.ntmps6
  go_wp2
  go_loopw [1] (fun s1 wr => ∃ n : Nat, n ≤ 160 ∧ s1 = .int .i64 (n : Int) ∧ Only (fun _ => False) w wr) (fun s1 _ => 160 - (intOf s1).toNat)
  case atStart => exact ⟨0, by omega, rfl, Only.refl _ w⟩
  case round =>
    obtain ⟨n, hn, rfl, ho⟩ := hrel
    obtain ⟨wn, hwn⟩ : ∃ x, x = wr := ⟨_, rfl⟩
    have O := Lib.hid ho
    rw [← hwn] at O
    subst hwn
    clear ho
    by_cases hlt : n < 160
    · have hltI : (n : Int) < 160 := by omega
      go_wp2
      go_loopw [2, 3, 4, 5] (fun s2 s3 s4 s5 wr => ∃ (i k t : Nat) (acs : List Ac) (ui : List V3), i ≤ 24 ∧ s5 = .int .i64 (i : Int) ∧ s3 = .int .i64 (k : Int) ∧ k < 10007 ∧ s4 = .int .u64 (t : Int) ∧ t ≤ i ∧ OwnS wr wn.heap.size 44 14 s2 (List.zipWith Ac.cls acs ui) ∧ acs.length = i ∧ AcOk acs ui wr ∧ Only (fun _ => False) wn wr) (fun _ _ _ s5 _ => 24 - (intOf s5).toNat)
      case atStart => exact ⟨0, n, 0, [], [], by omega, rfl, rfl, by omega, rfl, by omega, OwnS.nil _ _ _ _, rfl, AcOk.nil _, Only.refl _ wn⟩
      case round =>
        obtain ⟨i, k, t, acs, ui, hi, rfl, rfl, hk, rfl, ht, hS, hal, hok, ho⟩ := hrel
        obtain ⟨As, cs, es, hcs⟩ := hS.slice
        rw [List.length_zipWith, hok.1, Nat.min_self, hal] at es hcs
        subst es
        have S := Lib.hid hS
        have HAL := Lib.hid hal
        have OK := Lib.hid hok
        have OI := Lib.hid ho
        clear hS hal hok ho
        by_cases hi24 : i < 24
        · have HPK := Lib.hid (fun w1 => packet_is k w1)
          have hi24I : (i : Int) < 24 := by omega
          have e1 : IntKind.u64.wrap (k : Int) = (k : Int) := by rw [IntKind.wrap_u64]; omega
          have e2 : IntKind.u64.wrap ((k : Int) % 2) = (k : Int) % 2 := by rw [IntKind.wrap_u64]; omega
          go_upto_region 10 with (fail)
          obtain ⟨T, hT⟩ : ∃ T : Nat, (t : Int) + (k : Int) % 2 = (T : Int) := ⟨t + k % 2, by omega⟩
          have HT := Lib.hid (show T ≤ i + 1 from by omega)
          rw [hT]
          clear hT e1 e2
          refine rk10 As i cs k T ((k + i) % 9) (20 + i + k % 7 - k / 7 % 5) wn.heap.size (List.zipWith Ac.cls acs ui) _ _ _ _ _ _ _ _ _ _ _ _ _ _ _ _ _ _ _ _ _ _ _ _ _ _ _ _ _ _ _ _ _ _ _ _ _ _ _ _ _ _ _ _ _ _ _ _ _ _ _ _ _ _ _ _ _ _ _ _ _ _ _ _ _ _ _ _ _ _ _ _ _ _ _ _ _ _ _ _ _ _ _ _ _ _ _ _ _ _ _ _ _ _ _ _ _ _ _ _ _ _ _ _ _ _ _ _ _ _ wr _ hk hi24 rfl rfl S.out (by rw [List.length_zipWith, OK.out.1, Nat.min_self, HAL.out]; omega) OI.out.size ?_
          rintro v7 y21 y22 y23 y24 y25 y26 y27 y28 y29 y30 y31 y32 y33 y34 y35 y36 y37 y38 y39 y40 y41 y42 g w5 w7 hg hgi ho5 hS7 hO7
          have HD := Lib.hid (show (k + i) % 9 < 9 ∧ 20 + i + k % 7 - k / 7 % 5 < 100 from by omega)
          obtain ⟨D, hD⟩ : ∃ D, (k + i) % 9 = D := ⟨_, rfl⟩
          obtain ⟨NN, hNN⟩ : ∃ NN, 20 + i + k % 7 - k / 7 % 5 = NN := ⟨_, rfl⟩
          rw [hD, hNN] at hS7 hO7 HD
          clear hD hNN
          have O7 := Lib.hid (show Only (fun _ => False) wn w7 from (OI.out.trans ((ho5.alloc _)) (fun _ _ e => e)).trans hO7 (fun q hq e => by have := (S.out.lt q e).1; omega))
          have K5 := (OK.out.pure (ho5.alloc (.cells #[.int .i64 (D : Int), .int .u64 (NN : Int), .int .u64 (T : Int), .bool false, .int .u8 0, .int .u16 ((k % 65536 : Nat) : Int), .int .u32 0, .int .u32 0, .slice none 0 0, .bool false, .int .u16 0, .slice none 0 0, .slice (some ⟨g, 0, none⟩) 2 2, .int .u8 0] 44)))
          have S5 := S.out.only (ho5.alloc (.cells #[.int .i64 (D : Int), .int .u64 (NN : Int), .int .u64 (T : Int), .bool false, .int .u8 0, .int .u16 ((k % 65536 : Nat) : Int), .int .u32 0, .int .u32 0, .slice none 0 0, .bool false, .int .u16 0, .slice none 0 0, .slice (some ⟨g, 0, none⟩) 2 2, .int .u8 0] 44)) (by simp)
          have hgi2 := hgi.alloc (.cells #[.int .i64 (D : Int), .int .u64 (NN : Int), .int .u64 (T : Int), .bool false, .int .u8 0, .int .u16 ((k % 65536 : Nat) : Int), .int .u32 0, .int .u32 0, .slice none 0 0, .bool false, .int .u16 0, .slice none 0 0, .slice (some ⟨g, 0, none⟩) 2 2, .int .u8 0] 44)
          have K7 := Lib.hid ((K5.off hO7 (fun q cs hq e => owned_off S5.1 hq (by decide) e)).snoc (a := ⟨D, NN, T, pkN k⟩) (kk := k) (g := g) ⟨by have := HD.out; show NN < _; omega, by have := HT.out; show T < _; omega, fit_nat (d := (D : Int)) (by have := HD.out; omega)⟩ rfl (hgi2.only hO7 (fun e => owned_off S5.1 hgi2 (by decide) e)))
          have hz := zip_snoc OK.out.1 ⟨D, NN, T, pkN k⟩ (.slice none 0 0, .slice none 0 0, .slice (some ⟨g, 0, none⟩) 2 2)
          have S7 := Lib.hid (show OwnS w7 wn.heap.size 44 14 v7 (List.zipWith Ac.cls (acs ++ [⟨D, NN, T, pkN k⟩]) (ui ++ [(.slice none 0 0, .slice none 0 0, .slice (some ⟨g, 0, none⟩) 2 2)])) from by rw [hz]; exact hS7)
          have HL7 := Lib.hid (show (acs ++ [(⟨D, NN, T, pkN k⟩ : Ac)]).length = i + 1 from by rw [List.length_append, HAL.out]; rfl)
          obtain ⟨acs7, ha7⟩ : ∃ x, acs ++ [(⟨D, NN, T, pkN k⟩ : Ac)] = x := ⟨_, rfl⟩
          obtain ⟨ui7, hu7⟩ : ∃ x, ui ++ [((.slice none 0 0, .slice none 0 0, .slice (some ⟨g, 0, none⟩) 2 2) : V3)] = x := ⟨_, rfl⟩
          rw [ha7, hu7] at S7 K7
          rw [ha7] at HL7
          clear ha7 hu7 hz hgi hgi2 hg K5 S5 hS7 hO7 ho5
          obtain ⟨k2, hk2⟩ : ∃ k2 : Nat, ((k : Int) * 5 + 3 * (i : Int) + 1) % 10007 = (k2 : Int) := ⟨(k * 5 + 3 * i + 1) % 10007, by omega⟩
          have HK2 := Lib.hid (show k2 < 10007 from by omega)
          go_upto_region 8 with (fail)
          rw [hk2]
          clear hk2
          go_wp2
          exact ⟨⟨i + 1, k2, T, acs7, ui7, by omega, by go_num, rfl, HK2.out, rfl, HT.out, S7.out, HL7.out, K7.out, O7.out⟩, by simp [intOf]; omega⟩
        · obtain rfl : i = 24 := by omega
          have hn24 : ¬ ((24 : Nat) : Int) < 24 := by omega
          obtain ⟨n5, hn5⟩ : ∃ n5 : Nat, (n : Int) % 5 = (n5 : Int) := ⟨n % 5, by omega⟩
          obtain ⟨n6, hn6⟩ : ∃ n6 : Nat, (n : Int) % 6 = (n6 : Int) := ⟨n % 6, by omega⟩
          have HN56 := Lib.hid (show n5 < 5 ∧ n6 < 6 from by omega)
          have hw6 : IntKind.u64.wrap (n6 : Int) = (n6 : Int) := by rw [IntKind.wrap_u64]; omega
          have HPL := Lib.hid (show ∀ w1, Only (fun _ => False) wr w1 → Calls Try.prog 3 #[.int .i64 (1 + (n5 : Int)), .int .u64 (n6 : Int), .slice As 24 cs] w1 (SaysO (.bool true) w1) from fun w1 ho => by
            have hr := rdas_own (S.out.only ho (by simp)) OK.out.1 ((OK.out.pure ho).rd.2)
            exact rplays_walk _ n6 _ acs ui w1 hr (fun a ha => (OK.out.rd.1 a ha).1) (by rw [HAL.out]; decide) (by have := HN56.out; omega))
          have HAL2 := Lib.hid (show ∀ w1, Only (fun _ => False) wr w1 → Calls Try.prog 4 #[.int .i64 (n5 : Int), .int .u64 (n6 : Int), .slice As 24 cs] w1 (SaysO (.bool true) w1) from fun w1 ho => by
            have hr := rdas_own (S.out.only ho (by simp)) OK.out.1 ((OK.out.pure ho).rd.2)
            exact rall_walk _ n6 _ acs ui w1 hr OK.out.rd.1 (by rw [HAL.out]; decide) (fit_nat (d := (n5 : Int)) (by have := HN56.out; omega)) (by have := HN56.out; omega))
          go_wp2_with fail
          refine (HPL.out wr (Only.refl _ _)).mono ?_
          rintro e w5 ⟨rfl, ho5⟩
          have O5 := Lib.hid ho5
          clear ho5 HPL
          go_wp2_with fail
          refine (HAL2.out _ O5.out).mono ?_
          rintro e w6 ⟨rfl, ho6⟩
          have O6 := Lib.hid ((O.out.trans OI.out (fun _ _ e => e)).trans (O5.out.trans ho6 (fun _ _ e => e)) (fun _ _ e => e))
          clear ho6 HAL2
          go_wp2
          exact ⟨⟨n + 1, by omega, by go_num, O6.out⟩, by simp [intOf]; omega⟩
    · obtain rfl : n = 160 := by omega
      have HP0 := Lib.hid (show ∀ w1, Calls Try.prog 19 #[.int .u64 1] w1 (GotN 1 w1) from fun w1 => packet_is 1 w1)
      have HP1 := Lib.hid (show ∀ w1, Calls Try.prog 19 #[.int .u64 1] w1 (GotN 1 w1) from fun w1 => packet_is 1 w1)
      have HP2 := Lib.hid (show ∀ w1, Calls Try.prog 19 #[.int .u64 1] w1 (GotN 1 w1) from fun w1 => packet_is 1 w1)
      have HP3 := Lib.hid (show ∀ w1, Calls Try.prog 19 #[.int .u64 0] w1 (GotN 0 w1) from fun w1 => packet_is 0 w1)
      have HP4 := Lib.hid (show ∀ w1, Calls Try.prog 19 #[.int .u64 2] w1 (GotN 2 w1) from fun w1 => packet_is 2 w1)
      go_wp2_with fail
      refine (HP0.out _).mono ?_
      rintro e w20 ⟨g0, rfl, hg, hgi, ho⟩
      have G00 := Lib.hid hgi
      have Ow20 := Lib.hid (O.out.trans ho (fun _ _ e => e))
      have HBT := Lib.hid (built_ac 0 4611686018427387904 9 (.bool false) (.int .u8 0) (.int .u16 ((1 % 65536 : Nat) : Int)) (.int .u32 0) (.int .u32 0) (.slice none 0 0) (.bool false) (.int .u16 0) (.slice none 0 0) (.slice (some ⟨g0, 0, none⟩) 2 2) (.int .u8 0))
      clear hg hgi ho
      dsimp only
      go_wp2_with ((with_reducible refine wpList_build_p (o := ⟨some 70, _, _, _, _, _⟩) rfl 44 _ rfl #[.int .i64 0, .int .u64 4611686018427387904, .int .u64 9, .bool false, .int .u8 0, .int .u16 ((1 % 65536 : Nat) : Int), .int .u32 0, .int .u32 0, .slice none 0 0, .bool false, .int .u16 0, .slice none 0 0, .slice (some ⟨g0, 0, none⟩) 2 2, .int .u8 0] ?_ ?_); (refine (congrArg (Program.built Try.prog 44) ?_).trans HBT.out; simp [Act.eval, pkN_lit]))
      refine (HP1.out _).mono ?_
      rintro e w21 ⟨g1, rfl, hg, hgi, ho⟩
      have G11 := Lib.hid hgi
      have Ow21 := Lib.hid (Ow20.out.trans ho (fun _ _ e => e))
      have G01 := Lib.hid (G00.out.only ho (by simp))
      have HBT := Lib.hid (built_ac 0 0 9 (.bool false) (.int .u8 0) (.int .u16 ((1 % 65536 : Nat) : Int)) (.int .u32 0) (.int .u32 0) (.slice none 0 0) (.bool false) (.int .u16 0) (.slice none 0 0) (.slice (some ⟨g1, 0, none⟩) 2 2) (.int .u8 0))
      clear hg hgi ho
      dsimp only
      go_wp2_with ((with_reducible refine wpList_build_p (o := ⟨some 72, _, _, _, _, _⟩) rfl 44 _ rfl #[.int .i64 0, .int .u64 0, .int .u64 9, .bool false, .int .u8 0, .int .u16 ((1 % 65536 : Nat) : Int), .int .u32 0, .int .u32 0, .slice none 0 0, .bool false, .int .u16 0, .slice none 0 0, .slice (some ⟨g1, 0, none⟩) 2 2, .int .u8 0] ?_ ?_); (refine (congrArg (Program.built Try.prog 44) ?_).trans HBT.out; simp [Act.eval, pkN_lit]))
      refine (HP2.out _).mono ?_
      rintro e w22 ⟨g2, rfl, hg, hgi, ho⟩
      have G22 := Lib.hid hgi
      have Ow22 := Lib.hid (Ow21.out.trans ho (fun _ _ e => e))
      have G02 := Lib.hid (G01.out.only ho (by simp))
      have G12 := Lib.hid (G11.out.only ho (by simp))
      have HBT := Lib.hid (built_ac 0 4611686018427387903 3 (.bool false) (.int .u8 0) (.int .u16 ((1 % 65536 : Nat) : Int)) (.int .u32 0) (.int .u32 0) (.slice none 0 0) (.bool false) (.int .u16 0) (.slice none 0 0) (.slice (some ⟨g2, 0, none⟩) 2 2) (.int .u8 0))
      clear hg hgi ho
      dsimp only
      go_wp2_with ((with_reducible refine wpList_build_p (o := ⟨some 74, _, _, _, _, _⟩) rfl 44 _ rfl #[.int .i64 0, .int .u64 4611686018427387903, .int .u64 3, .bool false, .int .u8 0, .int .u16 ((1 % 65536 : Nat) : Int), .int .u32 0, .int .u32 0, .slice none 0 0, .bool false, .int .u16 0, .slice none 0 0, .slice (some ⟨g2, 0, none⟩) 2 2, .int .u8 0] ?_ ?_); (refine (congrArg (Program.built Try.prog 44) ?_).trans HBT.out; simp [Act.eval, pkN_lit]))
      refine (HP3.out _).mono ?_
      rintro e w23 ⟨g3, rfl, hg, hgi, ho⟩
      have G33 := Lib.hid hgi
      have Ow23 := Lib.hid (Ow22.out.trans ho (fun _ _ e => e))
      have G03 := Lib.hid (G02.out.only ho (by simp))
      have G13 := Lib.hid (G12.out.only ho (by simp))
      have G23 := Lib.hid (G22.out.only ho (by simp))
      have HBT := Lib.hid (built_ac 6 0 0 (.bool false) (.int .u8 0) (.int .u16 ((0 % 65536 : Nat) : Int)) (.int .u32 0) (.int .u32 0) (.slice none 0 0) (.bool false) (.int .u16 0) (.slice none 0 0) (.slice (some ⟨g3, 0, none⟩) 2 2) (.int .u8 0))
      clear hg hgi ho
      dsimp only
      go_wp2_with ((with_reducible refine wpList_build_p (o := ⟨some 76, _, _, _, _, _⟩) rfl 44 _ rfl #[.int .i64 6, .int .u64 0, .int .u64 0, .bool false, .int .u8 0, .int .u16 ((0 % 65536 : Nat) : Int), .int .u32 0, .int .u32 0, .slice none 0 0, .bool false, .int .u16 0, .slice none 0 0, .slice (some ⟨g3, 0, none⟩) 2 2, .int .u8 0] ?_ ?_); (refine (congrArg (Program.built Try.prog 44) ?_).trans HBT.out; simp [Act.eval, pkN_lit]))
      refine (HP4.out _).mono ?_
      rintro e w24 ⟨g4, rfl, hg, hgi, ho⟩
      have G44 := Lib.hid hgi
      have Ow24 := Lib.hid (Ow23.out.trans ho (fun _ _ e => e))
      have G04 := Lib.hid (G03.out.only ho (by simp))
      have G14 := Lib.hid (G13.out.only ho (by simp))
      have G24 := Lib.hid (G23.out.only ho (by simp))
      have G34 := Lib.hid (G33.out.only ho (by simp))
      have HBT := Lib.hid (built_ac 0 4611686018427387904 18446744073709551615 (.bool false) (.int .u8 0) (.int .u16 ((2 % 65536 : Nat) : Int)) (.int .u32 0) (.int .u32 0) (.slice none 0 0) (.bool false) (.int .u16 0) (.slice none 0 0) (.slice (some ⟨g4, 0, none⟩) 2 2) (.int .u8 0))
      clear hg hgi ho
      dsimp only
      go_upto_region 15 with (first
        | ((with_reducible refine wpList_build_p (o := ⟨some 78, _, _, _, _, _⟩) rfl 44 _ rfl #[.int .i64 0, .int .u64 4611686018427387904, .int .u64 18446744073709551615, .bool false, .int .u8 0, .int .u16 ((2 % 65536 : Nat) : Int), .int .u32 0, .int .u32 0, .slice none 0 0, .bool false, .int .u16 0, .slice none 0 0, .slice (some ⟨g4, 0, none⟩) 2 2, .int .u8 0] ?_ ?_); (refine (congrArg (Program.built Try.prog 44) ?_).trans HBT.out; simp [Act.eval, pkN_lit])))
      generalize hwF : World.alloc w24 _ = wF
      have hoF : Only (fun _ => False) w24 wF := by rw [← hwF]; exact (Only.refl _ w24).alloc _
      obtain ⟨acsF, haF⟩ : ∃ x : List Ac, [⟨0, 4611686018427387904, 9, pkN 1⟩, ⟨0, 0, 9, pkN 1⟩, ⟨0, 4611686018427387903, 3, pkN 1⟩, ⟨6, 0, 0, pkN 0⟩, ⟨0, 4611686018427387904, 18446744073709551615, pkN 2⟩] = x := ⟨_, rfl⟩
      obtain ⟨uiF, huF⟩ : ∃ x : List V3, [(.slice none 0 0, .slice none 0 0, .slice (some ⟨g0, 0, none⟩) 2 2), (.slice none 0 0, .slice none 0 0, .slice (some ⟨g1, 0, none⟩) 2 2), (.slice none 0 0, .slice none 0 0, .slice (some ⟨g2, 0, none⟩) 2 2), (.slice none 0 0, .slice none 0 0, .slice (some ⟨g3, 0, none⟩) 2 2), (.slice none 0 0, .slice none 0 0, .slice (some ⟨g4, 0, none⟩) 2 2)] = x := ⟨_, rfl⟩
      have HOKF := Lib.hid (show AcOk acsF uiF wF from by rw [← haF, ← huF]; exact (((((AcOk.nil wF).snoc (a := ⟨0, 4611686018427387904, 9, pkN 1⟩) (kk := 1) (g := g0) ⟨by decide, by decide, fit_nat (d := 0) (by decide)⟩ rfl (G04.out.only hoF (by simp))).snoc (a := ⟨0, 0, 9, pkN 1⟩) (kk := 1) (g := g1) ⟨by decide, by decide, fit_nat (d := 0) (by decide)⟩ rfl (G14.out.only hoF (by simp))).snoc (a := ⟨0, 4611686018427387903, 3, pkN 1⟩) (kk := 1) (g := g2) ⟨by decide, by decide, fit_nat (d := 0) (by decide)⟩ rfl (G24.out.only hoF (by simp))).snoc (a := ⟨6, 0, 0, pkN 0⟩) (kk := 0) (g := g3) ⟨by decide, by decide, fit_nat (d := 6) (by decide)⟩ rfl (G34.out.only hoF (by simp))).snoc (a := ⟨0, 4611686018427387904, 18446744073709551615, pkN 2⟩) (kk := 2) (g := g4) ⟨by decide, by decide, fit_nat (d := 0) (by decide)⟩ rfl (G44.out.only hoF (by simp)))
      have hIF : Is wF w24.heap.size 44 (List.zipWith Ac.cls acsF uiF).flatten.toArray := by rw [← hwF, ← haF, ← huF]; exact Is.made w24 _ _
      have HAF := Lib.hid haF
      have HUF := Lib.hid huF
      have hrdF := rdas_is hIF HOKF.out.1 HOKF.out.rd.2
      rw [show acsF.length = 5 from by rw [← haF]; rfl] at hrdF
      obtain ⟨gF, hgF⟩ : ∃ x, w24.heap.size = x := ⟨_, rfl⟩
      rw [hgF] at hIF hrdF ⊢
      have HIF := Lib.hid hIF
      have HRD := Lib.hid hrdF
      have OF := Lib.hid (Ow24.out.trans hoF (fun _ _ e => e))
      have HOO := Lib.hid (Only.refl (fun _ => False) wF)
      have H0 := Lib.hid (show ∀ w1, Only (fun _ => False) wF w1 → Calls Try.prog 3 #[.int .i64 0, .int .u64 1, .slice (some ⟨gF, 0, none⟩) 5 5] w1 (SaysO (.bool true) w1) from fun w1 ho => rplays_walk 0 1 _ acsF uiF w1 (HRD.out.pure ho) (fun a ha => (HOKF.out.rd.1 a ha).1) (by rw [← HAF.out]; decide) (by decide))
      have H1 := Lib.hid (show ∀ w1, Only (fun _ => False) wF w1 → Calls Try.prog 3 #[.int .i64 257, .int .u64 1, .slice (some ⟨gF, 0, none⟩) 5 5] w1 (SaysO (.bool true) w1) from fun w1 ho => rplays_walk 257 1 _ acsF uiF w1 (HRD.out.pure ho) (fun a ha => (HOKF.out.rd.1 a ha).1) (by rw [← HAF.out]; decide) (by decide))
      have H2 := Lib.hid (show ∀ w1, Only (fun _ => False) wF w1 → Calls Try.prog 3 #[.int .i64 256, .int .u64 18446744073709551615, .slice (some ⟨gF, 0, none⟩) 5 5] w1 (SaysO (.bool true) w1) from fun w1 ho => rplays_walk 256 18446744073709551615 _ acsF uiF w1 (HRD.out.pure ho) (fun a ha => (HOKF.out.rd.1 a ha).1) (by rw [← HAF.out]; decide) (by decide))
      have H3 := Lib.hid (show ∀ w1, Only (fun _ => False) wF w1 → Calls Try.prog 3 #[.int .i64 1, .int .u64 0, .slice (some ⟨gF, 0, none⟩) 5 5] w1 (SaysO (.bool true) w1) from fun w1 ho => rplays_walk 1 0 _ acsF uiF w1 (HRD.out.pure ho) (fun a ha => (HOKF.out.rd.1 a ha).1) (by rw [← HAF.out]; decide) (by decide))
      have H4 := Lib.hid (show ∀ w1, Only (fun _ => False) wF w1 → Calls Try.prog 4 #[.int .i64 1, .int .u64 3, .slice (some ⟨gF, 0, none⟩) 5 5] w1 (SaysO (.bool true) w1) from fun w1 ho => rall_walk 1 3 _ acsF uiF w1 (HRD.out.pure ho) HOKF.out.rd.1 (by rw [← HAF.out]; decide) (fit_nat (d := 1) (by decide)) (by decide))
      obtain ⟨a1, ha1⟩ : ∃ x, acsF[1]? = some x := ⟨⟨0, 0, 9, pkN 1⟩, by rw [← haF]; rfl⟩
      obtain ⟨u1, hu1⟩ : ∃ x, uiF[1]? = some x := ⟨(.slice none 0 0, .slice none 0 0, .slice (some ⟨g1, 0, none⟩) 2 2), by rw [← huF]; rfl⟩
      obtain ⟨a2, ha2⟩ : ∃ x, acsF[0]? = some x := ⟨⟨0, 4611686018427387904, 9, pkN 1⟩, by rw [← haF]; rfl⟩
      obtain ⟨u2, hu2⟩ : ∃ x, uiF[0]? = some x := ⟨(.slice none 0 0, .slice none 0 0, .slice (some ⟨g0, 0, none⟩) 2 2), by rw [← huF]; rfl⟩
      have HLZ := Lib.hid (show (List.zipWith Ac.cls (a1 :: acsF) (u1 :: uiF)).length = 6 from by rw [← haF, ← huF]; rfl)
      have HLF := Lib.hid (show (List.zipWith Ac.cls acsF uiF).flatten.length = 5 * 14 from by rw [← haF, ← huF]; rfl)
      have HOLD := Lib.hid (show ∀ wc, Only (fun _ => False) wF wc → ∀ j z, (a1.cls u1)[j]? = some z → wc.cell? ((⟨gF, 14, none⟩ : Addr).add j) = some z from fun wc ho j z hj => by
        obtain ⟨⟨g, o, n', c', e, hr⟩, -⟩ := (HRD.out.pure ho).at_ 1 a1 u1 ha1 hu1
        injection e with e1
        injection e1 with e1
        injection e1 with e1 e2
        subst e1 e2
        rw [add_plain]
        have := hr j z hj
        rwa [show 0 + 1 * 14 + j = 14 + j by omega] at this)
      have HNEW := Lib.hid (show ∀ wc, Only (fun _ => False) wF wc → ∀ j z, (List.zipWith Ac.cls acsF uiF).flatten[j]? = some z → wc.cell? ((⟨gF, 0, none⟩ : Addr).add j) = some z from fun wc ho j z hj => by
        rw [add_plain, Nat.zero_add, (HIF.out.only ho (by simp)).cell, List.getElem?_toArray]
        exact hj)
      have HC1 := Lib.hid (HOKF.out.cons ha1 hu1)
      have HLD := Lib.hid (show ∀ wc, Only (fun _ => False) wF wc → wc.rangeAt gF 0 (a2.cls u2) from fun wc ho => by
        obtain ⟨⟨g, o, n', c', e, hr⟩, -⟩ := (HRD.out.pure ho).at_ 0 a2 u2 ha2 hu2
        injection e with e1
        injection e1 with e1
        injection e1 with e1 e2
        subst e1 e2
        exact hr)
      have HN5 := Lib.hid (show ∀ wc, Only (fun _ => False) wF wc → Calls Try.prog 5 #[.agg (a2.cls u2).toArray] wc (SaysO (.bool true) wc) from fun wc ho => rnone_walk a2 u2 wc ((HOKF.out.pure ho).rd.2 0 a2 u2 ha2 hu2))
      have HWK := Lib.hid (show ∀ wc, Only (fun _ => False) wF wc → Calls Try.prog 8 #[] wc (SaysO (.bool true) wc) from fun wc _ => rworks_is wc)
      have hszA : (Try.prog.info? 44).map (·.size) = some (a2.cls u2).length := Try.sizeAc
      obtain ⟨i0, z0, hi0, hz0, hz1, hz2, hz3⟩ := sty_ac.info
      clear hwF hoF haF huF hIF hrdF hgF ha1 hu1 ha2 hu2
      go_wp2_with (first
        | ((with_reducible refine (H0.out _ HOO.out).mono ?_); rintro e w5 ⟨rfl, ho5⟩; replace HOO := Lib.hid (HOO.out.trans ho5 (fun _ _ e => e)); clear ho5)
        | ((with_reducible refine (H1.out _ HOO.out).mono ?_); rintro e w5 ⟨rfl, ho5⟩; replace HOO := Lib.hid (HOO.out.trans ho5 (fun _ _ e => e)); clear ho5)
        | ((with_reducible refine (H2.out _ HOO.out).mono ?_); rintro e w5 ⟨rfl, ho5⟩; replace HOO := Lib.hid (HOO.out.trans ho5 (fun _ _ e => e)); clear ho5)
        | ((with_reducible refine (H3.out _ HOO.out).mono ?_); rintro e w5 ⟨rfl, ho5⟩; replace HOO := Lib.hid (HOO.out.trans ho5 (fun _ _ e => e)); clear ho5)
        | (at_builtin; refine wpList_append_growsW _ rfl _ _ 23 rfl 44 i0 z0 14 128 sty_ac.und hi0 hz0 hz1 hz2 hz3 (by decide) ⟨gF, 14, none⟩ 1 4 (a1.cls u1) rfl rfl (HOLD.out _ HOO.out) ⟨gF, 0, none⟩ 5 5 (List.zipWith Ac.cls acsF uiF).flatten rfl HLF.out (HNEW.out _ HOO.out) (by decide) (by unfold maxLen; decide) (by decide) ?_; intro v8 w8 hr8 hg8; replace HOO := Lib.hid (HOO.out.trans ((Only.refl (fun _ => False) _).grown hg8 (by simp)) (fun _ _ e => e)); have S8 := (show OwnS w8 _ 44 14 v8 (List.zipWith Ac.cls (a1 :: acsF) (u1 :: uiF)) from ⟨by rw [HLZ.out]; exact hr8, zip14 _ _⟩); have R8 := rdas_own S8 HC1.out.1 (HC1.out.pure HOO.out).rd.2; obtain ⟨A8, c8, ev8, -⟩ := S8.slice; rw [HLZ.out] at ev8; subst ev8; have H5 := Lib.hid (show ∀ w1, Only (fun _ => False) w8 w1 → Calls Try.prog 3 #[.int .i64 2, .int .u64 18446744073709551615, .slice A8 6 c8] w1 (SaysO (.bool true) w1) from fun w1 ho => rplays_walk 2 18446744073709551615 _ (a1 :: acsF) (u1 :: uiF) w1 (R8.pure ho) (fun a ha => (HC1.out.rd.1 a ha).1) (by rw [← HAF.out]; simp) (by decide)); clear hr8 hg8 S8 R8)
        | ((with_reducible refine (H5.out _ (Only.refl _ _)).mono ?_); rintro e w5 ⟨rfl, ho5⟩; replace HOO := Lib.hid (HOO.out.trans ho5 (fun _ _ e => e)); clear ho5)
        | ((with_reducible refine (H4.out _ HOO.out).mono ?_); rintro e w5 ⟨rfl, ho5⟩; replace HOO := Lib.hid (HOO.out.trans ho5 (fun _ _ e => e)); clear ho5)
        | (refine wpList_load_midW (op := ⟨some 108, _, _, _, _, _⟩) rfl 44 _ rfl gF 0 rfl (a2.cls u2) _ (HLD.out _ HOO.out) Try.underlying44 rfl hszA ?_)
        | ((with_reducible refine (HN5.out _ HOO.out).mono ?_); rintro e w5 ⟨rfl, ho5⟩; replace HOO := Lib.hid (HOO.out.trans ho5 (fun _ _ e => e)); clear ho5)
        | ((with_reducible refine (HWK.out _ HOO.out).mono ?_); rintro e w5 ⟨rfl, ho5⟩; replace HOO := Lib.hid (HOO.out.trans ho5 (fun _ _ e => e)); clear ho5))
      go_ret
      exact ⟨rfl, OF.out.trans HOO.out (fun _ _ e => e)⟩
theorem rknown_args {w : World} : Calls Try.prog 6 #[] w fun e w' => e = .returned (.bool true) ∧ Below w.heap.size w w' := by
  refine (known_walk w).mono ?_
  rintro e w' ⟨rfl, ho⟩
  exact ⟨rfl, Only.below ho (fun i hi => hi.elim) (Nat.le_refl _)⟩
end Go.Proofs.Ytdcclighccejhaa
