/- slices.Sort of numbers of 32 digits: pdqsort's round, piece by piece. Conditions: as each says. -/
import Derived.Test.YtelfeedaadkhnaaSoI
import Derived.Test.YtelfeedaadkhnaaSoF
import Derived.Test.YtelfeedaadkhnaaSoE
import Derived.Test.YtelfeedaadkhnaaSoD
import Derived.Test.YtelfeedaadkhnaaCodeIf
set_option linter.unusedVariables false
set_option linter.unusedSimpArgs false
namespace Go.Proofs.Ytelfeedaadkhnaa
open Go Go.RowKit

/-- A sort under way: what is left is from a to b. -/
structure Iv (a0 b0 a b : Nat) (f0 f : Nat → Nat) : Prop where
  le : a0 ≤ a ∧ a ≤ b ∧ b ≤ b0
  mv : Mv a0 b0 f0 f
  ok : ∀ i j, a0 ≤ i → i < j → j < b0 → (i < a ∨ b ≤ j) → f i ≤ f j
  pre : 0 < a → ∀ k, a ≤ k → k < b → f (a - 1) ≤ f k
section
variable {a0 b0 a b m : Nat} {f0 f f' : Nat → Nat}
theorem Iv.start (h : a ≤ b) (hp : 0 < a → ∀ k, a ≤ k → k < b → f (a - 1) ≤ f k) : Iv a b a b f f := ⟨⟨Nat.le_refl _, h, Nat.le_refl _⟩, Mv.refl _ _ _, fun i j h1 h2 h3 h4 => by omega, hp⟩
theorem Iv.move (h : Iv a0 b0 a b f0 f) (hm : Mv a b f f') : Iv a0 b0 a b f0 f' := by
  obtain ⟨l1, l2, l3⟩ := h.le
  refine ⟨h.le, h.mv.trans (hm.mono l1 l3), fun i j h1 h2 h3 h4 => ?_, fun ha k k1 k2 => ?_⟩
  · rcases h4 with h4 | h4
    · rw [hm.out i (.inl h4)]
      by_cases hj : a ≤ j ∧ j < b
      · obtain ⟨q, q1, q2, e⟩ := hm.in_ j hj
        rw [e]; exact h.ok i q h1 (by omega) (by omega) (.inl h4)
      · rw [hm.out j (by omega)]; exact h.ok i j h1 h2 h3 (.inl h4)
    · rw [hm.out j (.inr h4)]
      by_cases hi : a ≤ i ∧ i < b
      · obtain ⟨q, q1, q2, e⟩ := hm.in_ i hi
        rw [e]; exact h.ok q j (by omega) (by omega) h3 (.inr h4)
      · rw [hm.out i (by omega)]; exact h.ok i j h1 h2 h3 (.inr h4)
  · rw [hm.out (a - 1) (by omega)]
    obtain ⟨q, q1, q2, e⟩ := hm.in_ k ⟨k1, k2⟩
    rw [e]; exact h.pre ha q q1 q2
theorem Iv.done (h : Iv a0 b0 a b f0 f) (hs : Srt a b f) : Srt a0 b0 f := fun i j h1 h2 h3 => by
  by_cases hi : i < a
  · exact h.ok i j h1 h2 h3 (.inl hi)
  · by_cases hj : b ≤ j
    · exact h.ok i j h1 h2 h3 (.inr hj)
    · exact hs i j (by omega) h2 (by omega)
theorem Iv.peq (h : Iv a0 b0 a b f0 f) {v : Nat} (ha : 0 < a) (hv : v ≤ f (a - 1)) (hm : a < m ∧ m ≤ b) (lo : ∀ k, a ≤ k → k < m → f k ≤ v) (hi : ∀ k, m ≤ k → k < b → v < f k) : Iv a0 b0 m b f0 f := by
  obtain ⟨l1, l2, l3⟩ := h.le
  refine ⟨⟨by omega, hm.2, l3⟩, h.mv, fun i j h1 h2 h3 h4 => ?_, fun _ k k1 k2 => ?_⟩
  · by_cases hia : i < a
    · exact h.ok i j h1 h2 h3 (.inl hia)
    · by_cases hjb : b ≤ j
      · exact h.ok i j h1 h2 h3 (.inr hjb)
      · have e1 := lo i (by omega) (by omega)
        by_cases hjm : j < m
        · have e2 := h.pre ha j (by omega) (by omega)
          omega
        · have e2 := hi j (by omega) (by omega)
          omega
  · have e1 := lo (m - 1) (by omega) (by omega)
    have e2 := hi k k1 k2
    omega
theorem Part.move {m1 m2 : Nat} (h : Part a b m f) (hm : Mv m1 m2 f f') (hw : (m1 = a ∧ m2 = m) ∨ (m1 = m + 1 ∧ m2 = b)) : Part a b m f' := by
  have e : f' m = f m := hm.out m (by omega)
  refine ⟨h.am, h.mb, fun k k1 k2 => ?_, fun k k1 k2 => ?_⟩
  · rw [e]
    by_cases hk : m1 ≤ k ∧ k < m2
    · obtain ⟨q, q1, q2, eq⟩ := hm.in_ k hk
      rw [eq]; exact h.lo q (by omega) (by omega)
    · rw [hm.out k (by omega)]; exact h.lo k k1 k2
  · rw [e]
    by_cases hk : m1 ≤ k ∧ k < m2
    · obtain ⟨q, q1, q2, eq⟩ := hm.in_ k hk
      rw [eq]; exact h.hi q (by omega) (by omega)
    · rw [hm.out k (by omega)]; exact h.hi k k1 k2
theorem Iv.right (h : Iv a0 b0 a b f0 f) (hp : Part a b m f) (hm : Mv a m f f') (hs : Srt a m f') : Iv a0 b0 (m + 1) b f0 f' := by
  obtain ⟨l1, l2, l3⟩ := h.le
  have hp' := hp.move hm (.inl ⟨rfl, rfl⟩)
  have h' := h.move (hm.mono (Nat.le_refl _) (by have := hp.mb; omega))
  have p1 := hp.am
  have p2 := hp.mb
  refine ⟨⟨by omega, by omega, l3⟩, h'.mv, fun i j h1 h2 h3 h4 => ?_, fun _ k k1 k2 => ?_⟩
  · by_cases hia : i < a
    · exact h'.ok i j h1 h2 h3 (.inl hia)
    · by_cases hjb : b ≤ j
      · exact h'.ok i j h1 h2 h3 (.inr hjb)
      · by_cases hjm : j < m
        · exact hs i j (by omega) h2 hjm
        · by_cases ej : j = m
          · rw [ej]; exact hp'.lo i (by omega) (by omega)
          · have e2 := hp'.hi j (by omega) (by omega)
            by_cases ei : i = m
            · rw [ei]; exact e2
            · have e1 := hp'.lo i (by omega) (by omega)
              omega
  · rw [Nat.add_sub_cancel]
    exact hp'.hi k (by omega) k2
theorem Iv.left (h : Iv a0 b0 a b f0 f) (hp : Part a b m f) (hm : Mv (m + 1) b f f') (hs : Srt (m + 1) b f') : Iv a0 b0 a m f0 f' := by
  obtain ⟨l1, l2, l3⟩ := h.le
  have hp' := hp.move hm (.inr ⟨rfl, rfl⟩)
  have p1 := hp.am
  have p2 := hp.mb
  have h' := h.move (hm.mono (by omega) (Nat.le_refl _))
  refine ⟨⟨l1, p1, by omega⟩, h'.mv, fun i j h1 h2 h3 h4 => ?_, fun ha k k1 k2 => h'.pre ha k k1 (by omega)⟩
  · by_cases hia : i < a
    · exact h'.ok i j h1 h2 h3 (.inl hia)
    · by_cases hjb : b ≤ j
      · exact h'.ok i j h1 h2 h3 (.inr hjb)
      · by_cases him : m < i
        · exact hs i j (by omega) h2 (by omega)
        · by_cases ej : j = m
          · rw [ej]; exact hp'.lo i (by omega) (by omega)
          · have e2 := hp'.hi j (by omega) (by omega)
            by_cases ei : i = m
            · rw [ei]; exact e2
            · have e1 := hp'.lo i (by omega) (by omega)
              omega
end
noncomputable def pdA_a : Code := match Try.f64.body.bind (codeIf 7) with | some (.seq a _) => a | _ => .skip
noncomputable def pdA_b : Code := match Try.f64.body.bind (codeIf 7) with | some (.seq _ b) => b | _ => .skip
set_option maxRecDepth 100000 in
set_option maxHeartbeats 8000000 in
theorem pdA (B g c N a b : Nat) (f : Nat → Nat) (w0 : World) (lim : Nat) (wb : Bool) (hN : N ≤ 1000) (hab : a + 8 ≤ b) (hs : b < a + 50) (hb : b ≤ N) (hl : 1 ≤ lim ∧ lim ≤ 1000000)  (u4 u5 u6 u7 u9 u10 u11 u12 u13 u14 u15 u16 u17 u18 u19 u20 u21 u22 u23 u24 u25 u26 u27 u28 u29 u30 u31 u32 u33 u34 u35 u36 u37 u38 u39 u40 u41 u42 u43 u44 u45 u46 u47 u48 u49 u50 u51 u52 u53 u54 u55 u56 u57 u58 u59 u60 u61 u62 u63 u64 u65 u66 u67 u68 u69 u70 u71 u72 u73 u74 u75 u76 u77 u78 u79 u80 u81 u82 u83 u84 u85 u86 u87 u88 u89 u90 u91 u92 u93 u94 u95 u96 u97 u98 u99 u100 u101 u102 u103 u104 u105 u106 u107 u108 u109 u110 u111 u112 u113 u114 u115 u116 u117 u118 u119 u120 u121 u122 u123 u124 u125 u126 u127 u128 u129 u130 u131 u132 u133 : Value) (Q : Exit → Act → World → Prop) (K9 : Act → World → Prop) (w : World) (hG : Rw B g c N f w0 w) (hK9 : ∀ a w, Code.wp Try.prog pdA_b Q a w → K9 a w)
    (hend : ∀ (y3 y34 y35 y36 y37 y38 y39 y40 y41 : Value) (w' : World), ((∃ l : Nat, y3 = .int .i64 (l : Int) ∧ l ≤ 1000000) ∧ ∃ f', Rw B g c N f' w0 w' ∧ Mv a b f f') → Q .normal ⟨(List.toArray (.slice (some ⟨g, 0, none⟩) N c :: .int .i64 (a : Int) :: .int .i64 (b : Int) :: y3 :: u4 :: u5 :: u6 :: u7 :: .bool wb :: u9 :: u10 :: u11 :: u12 :: u13 :: u14 :: u15 :: u16 :: u17 :: u18 :: u19 :: u20 :: u21 :: u22 :: u23 :: u24 :: u25 :: u26 :: u27 :: u28 :: u29 :: u30 :: u31 :: u32 :: u33 :: y34 :: y35 :: y36 :: y37 :: y38 :: y39 :: y40 :: y41 :: u42 :: u43 :: u44 :: u45 :: u46 :: u47 :: u48 :: u49 :: u50 :: u51 :: u52 :: u53 :: u54 :: u55 :: u56 :: u57 :: u58 :: u59 :: u60 :: u61 :: u62 :: u63 :: u64 :: u65 :: u66 :: u67 :: u68 :: u69 :: u70 :: u71 :: u72 :: u73 :: u74 :: u75 :: u76 :: u77 :: u78 :: u79 :: u80 :: u81 :: u82 :: u83 :: u84 :: u85 :: u86 :: u87 :: u88 :: u89 :: u90 :: u91 :: u92 :: u93 :: u94 :: u95 :: u96 :: u97 :: u98 :: u99 :: u100 :: u101 :: u102 :: u103 :: u104 :: u105 :: u106 :: u107 :: u108 :: u109 :: u110 :: u111 :: u112 :: u113 :: u114 :: u115 :: u116 :: u117 :: u118 :: u119 :: u120 :: u121 :: u122 :: u123 :: u124 :: u125 :: u126 :: u127 :: u128 :: u129 :: u130 :: u131 :: u132 :: u133 :: [])), []⟩ w') :
    Code.wp Try.prog pdA_a (Exit.then K9 Q) ⟨(List.toArray (.slice (some ⟨g, 0, none⟩) N c :: .int .i64 (a : Int) :: .int .i64 (b : Int) :: .int .i64 (lim : Int) :: u4 :: u5 :: u6 :: u7 :: .bool wb :: u9 :: u10 :: u11 :: u12 :: u13 :: u14 :: u15 :: u16 :: u17 :: u18 :: u19 :: u20 :: u21 :: u22 :: u23 :: u24 :: u25 :: u26 :: u27 :: u28 :: u29 :: u30 :: u31 :: u32 :: u33 :: u34 :: u35 :: u36 :: u37 :: u38 :: u39 :: u40 :: u41 :: u42 :: u43 :: u44 :: u45 :: u46 :: u47 :: u48 :: u49 :: u50 :: u51 :: u52 :: u53 :: u54 :: u55 :: u56 :: u57 :: u58 :: u59 :: u60 :: u61 :: u62 :: u63 :: u64 :: u65 :: u66 :: u67 :: u68 :: u69 :: u70 :: u71 :: u72 :: u73 :: u74 :: u75 :: u76 :: u77 :: u78 :: u79 :: u80 :: u81 :: u82 :: u83 :: u84 :: u85 :: u86 :: u87 :: u88 :: u89 :: u90 :: u91 :: u92 :: u93 :: u94 :: u95 :: u96 :: u97 :: u98 :: u99 :: u100 :: u101 :: u102 :: u103 :: u104 :: u105 :: u106 :: u107 :: u108 :: u109 :: u110 :: u111 :: u112 :: u113 :: u114 :: u115 :: u116 :: u117 :: u118 :: u119 :: u120 :: u121 :: u122 :: u123 :: u124 :: u125 :: u126 :: u127 :: u128 :: u129 :: u130 :: u131 :: u132 :: u133 :: [])), []⟩ w := by
  conv => arg 2; whnf
  conv at hK9 => intro a w; arg 1; arg 2; whnf
  have HEND := Lib.hid hend
  have HG := Lib.hid hG
  have ew : IntKind.i64.wrap ((lim : Int) - 1) = ((lim - 1 : Nat) : Int) := by rw [IntKind.wrap_i64]; omega
  clear hend hG
  cases wb with
  | true =>
    go_wp2_with fail
    refine HEND.out _ _ _ _ _ _ _ _ _ _ ?_
    exact ⟨⟨lim, by first | rfl | trivial, by omega⟩, f, HG.out, Mv.refl _ _ _⟩
  | false =>
    go_wp2_with fail
    refine (brk_is B g c N a b f w (by omega) (by omega) hs hb HG.out.re).mono ?_
    rintro e w2 ⟨rfl, f2, h1, h2, -⟩
    have H2 := Lib.hid (And.intro (HG.out.from_ h1) h2)
    clear h1 h2
    go_wp2_with fail
    refine HEND.out _ _ _ _ _ _ _ _ _ _ ?_
    exact ⟨⟨lim - 1, by first | rfl | trivial, by omega⟩, f2, H2.out.1, H2.out.2⟩

noncomputable def pdB_a : Code := match Try.f64.body.bind (codeIf 11) with | some (.seq a _) => a | _ => .skip
noncomputable def pdB_b : Code := match Try.f64.body.bind (codeIf 11) with | some (.seq _ b) => b | _ => .skip
set_option maxRecDepth 100000 in
set_option maxHeartbeats 8000000 in
theorem pdB (B g c N a b : Nat) (f : Nat → Nat) (w0 : World) (p h : Nat) (hN : N ≤ 1000) (hp : a ≤ p ∧ p < b) (hb : b ≤ N)  (u3 u4 u5 u6 u7 u8 u9 u10 u13 u14 u15 u16 u17 u18 u19 u20 u21 u22 u23 u24 u25 u26 u27 u28 u29 u30 u31 u32 u33 u34 u35 u36 u37 u38 u39 u40 u41 u42 u43 u44 u45 u46 u47 u48 u49 u50 u51 u52 u53 u54 u55 u56 u57 u58 u59 u60 u61 u62 u63 u64 u65 u66 u67 u68 u69 u70 u71 u72 u73 u74 u75 u76 u77 u78 u79 u80 u81 u82 u83 u84 u85 u86 u87 u88 u89 u90 u91 u92 u93 u94 u95 u96 u97 u98 u99 u100 u101 u102 u103 u104 u105 u106 u107 u108 u109 u110 u111 u112 u113 u114 u115 u116 u117 u118 u119 u120 u121 u122 u123 u124 u125 u126 u127 u128 u129 u130 u131 u132 u133 : Value) (Q : Exit → Act → World → Prop) (K9 : Act → World → Prop) (w : World) (hG : Rw B g c N f w0 w) (hK9 : ∀ a w, Code.wp Try.prog pdB_b Q a w → K9 a w)
    (hend : ∀ (y11 y12 y49 y50 y51 y52 y53 y54 y55 y56 y57 y58 y59 y60 : Value) (w' : World), ((∃ p' h' : Nat, y11 = .int .i64 (p' : Int) ∧ y12 = .int .i64 (h' : Int) ∧ a ≤ p' ∧ p' < b) ∧ ∃ f', Rw B g c N f' w0 w' ∧ Mv a b f f') → Q .normal ⟨(List.toArray (.slice (some ⟨g, 0, none⟩) N c :: .int .i64 (a : Int) :: .int .i64 (b : Int) :: u3 :: u4 :: u5 :: u6 :: u7 :: u8 :: u9 :: u10 :: y11 :: y12 :: u13 :: u14 :: u15 :: u16 :: u17 :: u18 :: u19 :: u20 :: u21 :: u22 :: u23 :: u24 :: u25 :: u26 :: u27 :: u28 :: u29 :: u30 :: u31 :: u32 :: u33 :: u34 :: u35 :: u36 :: u37 :: u38 :: u39 :: u40 :: u41 :: u42 :: u43 :: u44 :: u45 :: u46 :: u47 :: u48 :: y49 :: y50 :: y51 :: y52 :: y53 :: y54 :: y55 :: y56 :: y57 :: y58 :: y59 :: y60 :: u61 :: u62 :: u63 :: u64 :: u65 :: u66 :: u67 :: u68 :: u69 :: u70 :: u71 :: u72 :: u73 :: u74 :: u75 :: u76 :: u77 :: u78 :: u79 :: u80 :: u81 :: u82 :: u83 :: u84 :: u85 :: u86 :: u87 :: u88 :: u89 :: u90 :: u91 :: u92 :: u93 :: u94 :: u95 :: u96 :: u97 :: u98 :: u99 :: u100 :: u101 :: u102 :: u103 :: u104 :: u105 :: u106 :: u107 :: u108 :: u109 :: u110 :: u111 :: u112 :: u113 :: u114 :: u115 :: u116 :: u117 :: u118 :: u119 :: u120 :: u121 :: u122 :: u123 :: u124 :: u125 :: u126 :: u127 :: u128 :: u129 :: u130 :: u131 :: u132 :: u133 :: [])), []⟩ w') :
    Code.wp Try.prog pdB_a (Exit.then K9 Q) ⟨(List.toArray (.slice (some ⟨g, 0, none⟩) N c :: .int .i64 (a : Int) :: .int .i64 (b : Int) :: u3 :: u4 :: u5 :: u6 :: u7 :: u8 :: u9 :: u10 :: .int .i64 (p : Int) :: .int .i64 (h : Int) :: u13 :: u14 :: u15 :: u16 :: u17 :: u18 :: u19 :: u20 :: u21 :: u22 :: u23 :: u24 :: u25 :: u26 :: u27 :: u28 :: u29 :: u30 :: u31 :: u32 :: u33 :: u34 :: u35 :: u36 :: u37 :: u38 :: u39 :: u40 :: u41 :: u42 :: u43 :: u44 :: u45 :: u46 :: u47 :: u48 :: u49 :: u50 :: u51 :: u52 :: u53 :: u54 :: u55 :: u56 :: u57 :: u58 :: u59 :: u60 :: u61 :: u62 :: u63 :: u64 :: u65 :: u66 :: u67 :: u68 :: u69 :: u70 :: u71 :: u72 :: u73 :: u74 :: u75 :: u76 :: u77 :: u78 :: u79 :: u80 :: u81 :: u82 :: u83 :: u84 :: u85 :: u86 :: u87 :: u88 :: u89 :: u90 :: u91 :: u92 :: u93 :: u94 :: u95 :: u96 :: u97 :: u98 :: u99 :: u100 :: u101 :: u102 :: u103 :: u104 :: u105 :: u106 :: u107 :: u108 :: u109 :: u110 :: u111 :: u112 :: u113 :: u114 :: u115 :: u116 :: u117 :: u118 :: u119 :: u120 :: u121 :: u122 :: u123 :: u124 :: u125 :: u126 :: u127 :: u128 :: u129 :: u130 :: u131 :: u132 :: u133 :: [])), []⟩ w := by
  conv => arg 2; whnf
  conv at hK9 => intro a w; arg 1; arg 2; whnf
  have HEND := Lib.hid hend
  have HG := Lib.hid hG
  have e1 : IntKind.i64.wrap ((b : Int) - 1) = (b : Int) - 1 := by rw [IntKind.wrap_i64]; omega
  have e2 : IntKind.i64.wrap ((p : Int) - (a : Int)) = (p : Int) - (a : Int) := by rw [IntKind.wrap_i64]; omega
  have e3 : IntKind.i64.wrap ((b : Int) - 1 - ((p : Int) - (a : Int))) = ((b - 1 - (p - a) : Nat) : Int) := by rw [IntKind.wrap_i64]; omega
  clear hend hG
  by_cases hh : h = 2
  · subst hh
    go_wp2_with fail
    refine (rev_is B g c N a b f w (by omega) (by omega) hb HG.out.re).mono ?_
    rintro e w2 ⟨rfl, f2, h1, h2, -⟩
    have H2 := Lib.hid (And.intro (HG.out.from_ h1) h2)
    clear h1 h2
    go_wp2_with fail
    refine HEND.out _ _ _ _ _ _ _ _ _ _ _ _ _ _ _ ?_
    exact ⟨⟨b - 1 - (p - a), 1, by first | rfl | trivial, by first | rfl | trivial, by omega⟩, f2, H2.out.1, H2.out.2⟩
  · have hhI : ¬ (h : Int) = 2 := by omega
    go_wp2_with fail
    refine HEND.out _ _ _ _ _ _ _ _ _ _ _ _ _ _ _ ?_
    exact ⟨⟨p, h, by first | rfl | trivial, by first | rfl | trivial, by omega⟩, f, HG.out, Mv.refl _ _ _⟩

noncomputable def pdC_a : Code := match Try.f64.body.bind (codeIf 15) with | some (.seq a _) => a | _ => .skip
noncomputable def pdC_b : Code := match Try.f64.body.bind (codeIf 15) with | some (.seq _ b) => b | _ => .skip
set_option maxRecDepth 100000 in
set_option maxHeartbeats 8000000 in
theorem pdC (B g c N a b : Nat) (f : Nat → Nat) (w0 : World) (h : Nat) (wb wp : Bool) (hN : N ≤ 1000) (hab : a < b) (hs : b < a + 50) (hb : b ≤ N)  (u3 u4 u5 u6 u7 u10 u11 u13 u14 u15 u16 u17 u18 u19 u20 u21 u22 u23 u24 u25 u26 u27 u28 u29 u30 u31 u32 u33 u34 u35 u36 u37 u38 u39 u40 u41 u42 u43 u44 u45 u46 u47 u48 u49 u50 u51 u52 u53 u54 u55 u56 u57 u58 u59 u60 u61 u62 u63 u64 u65 u66 u67 u68 u69 u70 u71 u72 u73 u74 u75 u76 u77 u78 u79 u80 u81 u82 u83 u84 u85 u86 u87 u88 u89 u90 u91 u92 u93 u94 u95 u96 u97 u98 u99 u100 u101 u102 u103 u104 u105 u106 u107 u108 u109 u110 u111 u112 u113 u114 u115 u116 u117 u118 u119 u120 u121 u122 u123 u124 u125 u126 u127 u128 u129 u130 u131 u132 u133 : Value) (Q : Exit → Act → World → Prop) (K9 : Act → World → Prop) (w : World) (hG : Rw B g c N f w0 w) (hret : ∀ (ts : Array Value) (w' : World), (Rw B g c N f w0 w' ∧ Srt a b f) → Q .ret ⟨ts, []⟩ w') (hK9 : ∀ a w, Code.wp Try.prog pdC_b Q a w → K9 a w)
    (hend : ∀ (y61 y62 y63 y64 y65 y66 y67 y68 y69 y70 y71 y72 : Value) (w' : World), (Rw B g c N f w0 w') → Q .normal ⟨(List.toArray (.slice (some ⟨g, 0, none⟩) N c :: .int .i64 (a : Int) :: .int .i64 (b : Int) :: u3 :: u4 :: u5 :: u6 :: u7 :: .bool wb :: .bool wp :: u10 :: u11 :: .int .i64 (h : Int) :: u13 :: u14 :: u15 :: u16 :: u17 :: u18 :: u19 :: u20 :: u21 :: u22 :: u23 :: u24 :: u25 :: u26 :: u27 :: u28 :: u29 :: u30 :: u31 :: u32 :: u33 :: u34 :: u35 :: u36 :: u37 :: u38 :: u39 :: u40 :: u41 :: u42 :: u43 :: u44 :: u45 :: u46 :: u47 :: u48 :: u49 :: u50 :: u51 :: u52 :: u53 :: u54 :: u55 :: u56 :: u57 :: u58 :: u59 :: u60 :: y61 :: y62 :: y63 :: y64 :: y65 :: y66 :: y67 :: y68 :: y69 :: y70 :: y71 :: y72 :: u73 :: u74 :: u75 :: u76 :: u77 :: u78 :: u79 :: u80 :: u81 :: u82 :: u83 :: u84 :: u85 :: u86 :: u87 :: u88 :: u89 :: u90 :: u91 :: u92 :: u93 :: u94 :: u95 :: u96 :: u97 :: u98 :: u99 :: u100 :: u101 :: u102 :: u103 :: u104 :: u105 :: u106 :: u107 :: u108 :: u109 :: u110 :: u111 :: u112 :: u113 :: u114 :: u115 :: u116 :: u117 :: u118 :: u119 :: u120 :: u121 :: u122 :: u123 :: u124 :: u125 :: u126 :: u127 :: u128 :: u129 :: u130 :: u131 :: u132 :: u133 :: [])), []⟩ w') :
    Code.wp Try.prog pdC_a (Exit.then K9 Q) ⟨(List.toArray (.slice (some ⟨g, 0, none⟩) N c :: .int .i64 (a : Int) :: .int .i64 (b : Int) :: u3 :: u4 :: u5 :: u6 :: u7 :: .bool wb :: .bool wp :: u10 :: u11 :: .int .i64 (h : Int) :: u13 :: u14 :: u15 :: u16 :: u17 :: u18 :: u19 :: u20 :: u21 :: u22 :: u23 :: u24 :: u25 :: u26 :: u27 :: u28 :: u29 :: u30 :: u31 :: u32 :: u33 :: u34 :: u35 :: u36 :: u37 :: u38 :: u39 :: u40 :: u41 :: u42 :: u43 :: u44 :: u45 :: u46 :: u47 :: u48 :: u49 :: u50 :: u51 :: u52 :: u53 :: u54 :: u55 :: u56 :: u57 :: u58 :: u59 :: u60 :: u61 :: u62 :: u63 :: u64 :: u65 :: u66 :: u67 :: u68 :: u69 :: u70 :: u71 :: u72 :: u73 :: u74 :: u75 :: u76 :: u77 :: u78 :: u79 :: u80 :: u81 :: u82 :: u83 :: u84 :: u85 :: u86 :: u87 :: u88 :: u89 :: u90 :: u91 :: u92 :: u93 :: u94 :: u95 :: u96 :: u97 :: u98 :: u99 :: u100 :: u101 :: u102 :: u103 :: u104 :: u105 :: u106 :: u107 :: u108 :: u109 :: u110 :: u111 :: u112 :: u113 :: u114 :: u115 :: u116 :: u117 :: u118 :: u119 :: u120 :: u121 :: u122 :: u123 :: u124 :: u125 :: u126 :: u127 :: u128 :: u129 :: u130 :: u131 :: u132 :: u133 :: [])), []⟩ w := by
  conv => arg 2; whnf
  conv at hK9 => intro a w; arg 1; arg 2; whnf
  have HEND := Lib.hid hend
  have HRET := Lib.hid hret
  have HG := Lib.hid hG
  clear hend hG hret
  cases wb with
  | false =>
    go_wp2_with fail
    refine HEND.out _ _ _ _ _ _ _ _ _ _ _ _ _ ?_
    exact HG.out
  | true =>
    cases wp with
    | false =>
      go_wp2_with fail
      refine HEND.out _ _ _ _ _ _ _ _ _ _ _ _ _ ?_
      exact HG.out
    | true =>
      by_cases hh : h = 1
      · subst hh
        go_wp2_with fail
        refine (pis_is B g c N a b f w (by omega) (by omega) hb hs HG.out.re).mono ?_
        rintro e w2 ⟨v, rfl, h1, h2⟩
        have H2 := Lib.hid (HG.out.from_ h1)
        have HV := Lib.hid h2
        clear h1 h2
        cases v with
        | false =>
          go_wp2_with fail
          refine HEND.out _ _ _ _ _ _ _ _ _ _ _ _ _ ?_
          exact H2.out
        | true =>
          go_wp2_with fail
          exact HRET.out _ _ ⟨H2.out, HV.out (by trivial)⟩
      · have hhI : ¬ (h : Int) = 1 := by omega
        go_wp2_with fail
        refine HEND.out _ _ _ _ _ _ _ _ _ _ _ _ _ ?_
        exact HG.out

end Go.Proofs.Ytelfeedaadkhnaa
