/- floor: FloorOrder's round: what has been asked, turned by a request and by one who left. Conditions: as each says. -/
import Derived.Test.YtelfeedaadkhnaaFoF
import Derived.Test.YtelfeedaadkhnaaCodeIf
set_option linter.unusedVariables false
set_option linter.unusedSimpArgs false
namespace Go.Proofs.Ytelfeedaadkhnaa
open Go Go.RowKit

/-- Blocks that are no part of a floor are written; new ones are no part of it. -/
theorem Fs.beside {w wx wy : World} {b mb : Nat} {m : Fl} {S T S' : Nat → Prop} (h : Fs w b mb m S wx) (ho : Only T wx wy) (hT : ∀ k, T k → S k ∧ w.heap.size ≤ k) (hS : ∀ k, S' k → S k ∨ wx.heap.size ≤ k ∧ k < wy.heap.size) : Fs w b mb m S' wy := by
  obtain ⟨vw, vg, h1, h2, h3⟩ := h
  refine ⟨vw, vg, h1.only ho (fun k hk ht => (h3 k (hT k ht).1).2 hk), h2.trans ho (fun i hi ht => absurd (hT i ht).2 (by omega)), fun k hk => ?_⟩
  rcases hS k hk with h | ⟨h4, h5⟩
  · exact ⟨Nat.lt_of_lt_of_le (h3 k h).1 ho.size, (h3 k h).2⟩
  · exact ⟨h5, fun hf => by have := (h1.foot hf).2; omega⟩
/-- Amid a round: the floor, what has been asked, the call. -/
structure Fx (w : World) (b mb : Nat) (m : Fl) (ask : List Nat) (v9 : Value) (a0 : Nat) (d : Int) (who other : Nat) (flag : Bool) (by_ : Nat) (wx : World) : Prop where
  fs : Fs w b mb m (fun k => v9.ownBlock = some k ∨ k = a0) wx
  tl : Tl wx w.heap.size v9 ask
  ac : Is wx a0 40 (actC d who other flag by_)
  lo : w.heap.size ≤ a0
section
variable {w wx wy : World} {b mb : Nat} {m : Fl} {ask : List Nat} {v9 v' : Value} {a0 : Nat} {d : Int} {who other : Nat} {flag : Bool} {by_ : Nat}
theorem Fx.ne (h : Fx w b mb m ask v9 a0 d who other flag by_ wx) (hv : ∀ k, v9.ownBlock = some k → k ≠ a0) : True := trivial
theorem Fx.go (h : Fx w b mb m ask v9 a0 d who other flag by_ wx) (ho : Only (fun _ => False) wx wy) : Fx w b mb m ask v9 a0 d who other flag by_ wy :=
  ⟨h.fs.go ho, h.tl.only ho (by simp), h.ac.only ho (by simp), h.lo⟩
/-- The row's block is none of the call's: a row of numbers is no call. -/
theorem Tl.off (h : Tl wx w.heap.size v9 ask) {T : TypeId} {cs : Array Value} (hI : Is wx a0 T cs) (hT : 30 ≠ T) (hc : ∀ A n c, v9 = .slice A n c → 0 < c) : v9.ownBlock ≠ some a0 := by
  obtain ⟨ao, cap, rfl, h1, h2, h3, h4⟩ := h
  obtain ⟨b', off, cur, rfl, h5, h6, h7⟩ := h4 (hc _ _ _ rfl)
  intro e
  simp [Value.ownBlock] at e
  exact h5.apart hI hT e
/-- An append to what has been asked. -/
theorem Fx.append (h : Fx w b mb m ask v9 a0 d who other flag by_ wx) {W1 : World} (ho1 : Only (fun _ => False) wx W1) {n : Nat} (h1 : Tl wy w.heap.size v' (ask ++ [n])) (h2 : Only (fun k => v9.ownBlock = some k) W1 wy) (h3 : ∀ k, v'.ownBlock = some k → v9.ownBlock = some k ∨ W1.heap.size ≤ k) (hne : v9.ownBlock ≠ some a0) :
    Fx w b mb m (ask ++ [n]) v' a0 d who other flag by_ wy := by
  have hF := h.fs.go ho1
  refine ⟨hF.beside h2 (fun k hk => ⟨.inl hk, (h.tl.lt k hk).1⟩) (fun k hk => ?_), h1, (h.ac.only ho1 (by simp)).only h2 hne, h.lo⟩
  rcases hk with hk | hk
  · rcases h3 k hk with h4 | h4
    · exact .inl (.inl h4)
    · exact .inr ⟨h4, (h1.lt k hk).2⟩
  · exact .inl (.inr hk)
end
noncomputable def pfA_a : Code := match Try.f4.body.bind (codeIf 17) with | some (.seq a _) => a | _ => .skip
noncomputable def pfA_b : Code := match Try.f4.body.bind (codeIf 17) with | some (.seq _ b) => b | _ => .skip
set_option maxRecDepth 100000 in
set_option maxHeartbeats 8000000 in
theorem pfA (b mb a0 who other by_ c p : Nat) (flag : Bool) (d : Int) (m : Fl) (ask : List Nat) (v9 : Value) (w0 : World) (hl : ask.length ≤ 1000) (hne : v9.ownBlock ≠ some a0)  (u0 u1 u2 u3 u4 u5 u6 u7 u8 u10 u11 u12 u16 u17 u18 u19 u20 u21 u22 u23 u24 u25 u26 u27 u28 u29 u30 u31 u32 u33 u34 u35 u36 u37 u38 u39 u40 u41 u42 u43 u44 u45 u46 u47 u48 u49 u50 u51 u52 u53 u54 u55 u56 u57 u58 u59 u60 u61 u62 u63 u64 u65 u66 u67 u68 u69 u70 u71 u72 u73 u74 u75 u76 u77 u78 u79 u80 u81 u82 u83 u84 u85 u86 u87 u88 u89 u90 u91 u92 u93 u94 u95 u96 u97 u98 u99 u100 u101 u102 u103 u104 u105 u106 u107 u108 u109 u110 u111 u112 u113 u114 u115 u116 u117 u118 u119 u120 u121 u122 u123 u124 u125 u126 u127 u128 u129 u130 u131 u132 u133 u134 u135 u136 u137 u138 u139 u140 u141 u142 u143 u144 u145 u146 u147 u148 u149 u150 u151 u152 u153 u154 u155 u156 u157 u158 u159 u160 u161 u162 u163 u164 u165 u166 u167 u168 u169 u170 u171 u172 u173 u174 u175 u176 u177 u178 u179 u180 u181 u182 u183 u184 u185 u186 u187 u188 u189 u190 u191 u192 u193 u194 u195 u196 u197 u198 u199 u200 u201 u202 u203 u204 u205 u206 u207 u208 u209 u210 u211 u212 u213 u214 u215 u216 u217 u218 u219 u220 u221 u222 u223 u224 u225 u226 u227 u228 : Value) (Q : Exit → Act → World → Prop) (K9 : Act → World → Prop) (w : World) (hG : Fx w0 b mb m ask v9 a0 d who other flag by_ w) (hK9 : ∀ a w, Code.wp Try.prog pfA_b Q a w → K9 a w)
    (hend : ∀ (y9 y61 y62 y63 y64 y65 y66 y67 y68 y69 y70 y71 y72 y73 y74 y75 : Value) (w' : World), (Fx w0 b mb m (if (p = 2 ∨ p = 3) ∧ c = 0 then ask ++ [who] else ask) y9 a0 d who other flag by_ w') → Q .normal ⟨(List.toArray (u0 :: u1 :: u2 :: u3 :: u4 :: u5 :: u6 :: u7 :: u8 :: y9 :: u10 :: u11 :: u12 :: .pointer (some ⟨a0, 0, none⟩) :: .int .i64 (c : Int) :: .int .i64 (p : Int) :: u16 :: u17 :: u18 :: u19 :: u20 :: u21 :: u22 :: u23 :: u24 :: u25 :: u26 :: u27 :: u28 :: u29 :: u30 :: u31 :: u32 :: u33 :: u34 :: u35 :: u36 :: u37 :: u38 :: u39 :: u40 :: u41 :: u42 :: u43 :: u44 :: u45 :: u46 :: u47 :: u48 :: u49 :: u50 :: u51 :: u52 :: u53 :: u54 :: u55 :: u56 :: u57 :: u58 :: u59 :: u60 :: y61 :: y62 :: y63 :: y64 :: y65 :: y66 :: y67 :: y68 :: y69 :: y70 :: y71 :: y72 :: y73 :: y74 :: y75 :: u76 :: u77 :: u78 :: u79 :: u80 :: u81 :: u82 :: u83 :: u84 :: u85 :: u86 :: u87 :: u88 :: u89 :: u90 :: u91 :: u92 :: u93 :: u94 :: u95 :: u96 :: u97 :: u98 :: u99 :: u100 :: u101 :: u102 :: u103 :: u104 :: u105 :: u106 :: u107 :: u108 :: u109 :: u110 :: u111 :: u112 :: u113 :: u114 :: u115 :: u116 :: u117 :: u118 :: u119 :: u120 :: u121 :: u122 :: u123 :: u124 :: u125 :: u126 :: u127 :: u128 :: u129 :: u130 :: u131 :: u132 :: u133 :: u134 :: u135 :: u136 :: u137 :: u138 :: u139 :: u140 :: u141 :: u142 :: u143 :: u144 :: u145 :: u146 :: u147 :: u148 :: u149 :: u150 :: u151 :: u152 :: u153 :: u154 :: u155 :: u156 :: u157 :: u158 :: u159 :: u160 :: u161 :: u162 :: u163 :: u164 :: u165 :: u166 :: u167 :: u168 :: u169 :: u170 :: u171 :: u172 :: u173 :: u174 :: u175 :: u176 :: u177 :: u178 :: u179 :: u180 :: u181 :: u182 :: u183 :: u184 :: u185 :: u186 :: u187 :: u188 :: u189 :: u190 :: u191 :: u192 :: u193 :: u194 :: u195 :: u196 :: u197 :: u198 :: u199 :: u200 :: u201 :: u202 :: u203 :: u204 :: u205 :: u206 :: u207 :: u208 :: u209 :: u210 :: u211 :: u212 :: u213 :: u214 :: u215 :: u216 :: u217 :: u218 :: u219 :: u220 :: u221 :: u222 :: u223 :: u224 :: u225 :: u226 :: u227 :: u228 :: [])), []⟩ w') :
    Code.wp Try.prog pfA_a (Exit.then K9 Q) ⟨(List.toArray (u0 :: u1 :: u2 :: u3 :: u4 :: u5 :: u6 :: u7 :: u8 :: v9 :: u10 :: u11 :: u12 :: .pointer (some ⟨a0, 0, none⟩) :: .int .i64 (c : Int) :: .int .i64 (p : Int) :: u16 :: u17 :: u18 :: u19 :: u20 :: u21 :: u22 :: u23 :: u24 :: u25 :: u26 :: u27 :: u28 :: u29 :: u30 :: u31 :: u32 :: u33 :: u34 :: u35 :: u36 :: u37 :: u38 :: u39 :: u40 :: u41 :: u42 :: u43 :: u44 :: u45 :: u46 :: u47 :: u48 :: u49 :: u50 :: u51 :: u52 :: u53 :: u54 :: u55 :: u56 :: u57 :: u58 :: u59 :: u60 :: u61 :: u62 :: u63 :: u64 :: u65 :: u66 :: u67 :: u68 :: u69 :: u70 :: u71 :: u72 :: u73 :: u74 :: u75 :: u76 :: u77 :: u78 :: u79 :: u80 :: u81 :: u82 :: u83 :: u84 :: u85 :: u86 :: u87 :: u88 :: u89 :: u90 :: u91 :: u92 :: u93 :: u94 :: u95 :: u96 :: u97 :: u98 :: u99 :: u100 :: u101 :: u102 :: u103 :: u104 :: u105 :: u106 :: u107 :: u108 :: u109 :: u110 :: u111 :: u112 :: u113 :: u114 :: u115 :: u116 :: u117 :: u118 :: u119 :: u120 :: u121 :: u122 :: u123 :: u124 :: u125 :: u126 :: u127 :: u128 :: u129 :: u130 :: u131 :: u132 :: u133 :: u134 :: u135 :: u136 :: u137 :: u138 :: u139 :: u140 :: u141 :: u142 :: u143 :: u144 :: u145 :: u146 :: u147 :: u148 :: u149 :: u150 :: u151 :: u152 :: u153 :: u154 :: u155 :: u156 :: u157 :: u158 :: u159 :: u160 :: u161 :: u162 :: u163 :: u164 :: u165 :: u166 :: u167 :: u168 :: u169 :: u170 :: u171 :: u172 :: u173 :: u174 :: u175 :: u176 :: u177 :: u178 :: u179 :: u180 :: u181 :: u182 :: u183 :: u184 :: u185 :: u186 :: u187 :: u188 :: u189 :: u190 :: u191 :: u192 :: u193 :: u194 :: u195 :: u196 :: u197 :: u198 :: u199 :: u200 :: u201 :: u202 :: u203 :: u204 :: u205 :: u206 :: u207 :: u208 :: u209 :: u210 :: u211 :: u212 :: u213 :: u214 :: u215 :: u216 :: u217 :: u218 :: u219 :: u220 :: u221 :: u222 :: u223 :: u224 :: u225 :: u226 :: u227 :: u228 :: [])), []⟩ w := by
  conv => arg 2; whnf
  conv at hK9 => intro a w; arg 1; arg 2; whnf
  have HEND := Lib.hid hend
  have HG := Lib.hid hG
  have c1 : w.cell? ⟨a0, 1, none⟩ = some (.int .u32 (who : Int)) := hG.ac.cell 1
  have HLO := Lib.hid (show w0.heap.size ≤ (w.alloc (.cells #[.int .u32 (who : Int)] 30)).heap.size from by have := hG.fs.only.size; simp; omega)
  clear hend hG
  by_cases hc : c = 0
  · subst hc
    by_cases h2 : p = 2
    · subst h2
      rw [if_pos ⟨.inl rfl, rfl⟩] at HEND
      go_wp2_with (at_builtin; refine wpList_tl_append _ rfl _ _ rfl w0.heap.size v9 ask rfl (HG.out.tl.only ((Only.refl (fun _ => False) w).alloc _) (by simp)) w.heap.size who rfl ((Is.made w _ _).cell 0) hl (HLO.out) ?_; intro v' w' t1 t2 t3)
      refine HEND.out _ _ _ _ _ _ _ _ _ _ _ _ _ _ _ _ _ ?_
      exact HG.out.append ((Only.refl _ w).alloc _) t1 t2 t3 hne
    · by_cases h3 : p = 3
      · subst h3
        rw [if_pos ⟨.inr rfl, rfl⟩] at HEND
        go_wp2_with (at_builtin; refine wpList_tl_append _ rfl _ _ rfl w0.heap.size v9 ask rfl (HG.out.tl.only ((Only.refl (fun _ => False) w).alloc _) (by simp)) w.heap.size who rfl ((Is.made w _ _).cell 0) hl (HLO.out) ?_; intro v' w' t1 t2 t3)
        refine HEND.out _ _ _ _ _ _ _ _ _ _ _ _ _ _ _ _ _ ?_
        exact HG.out.append ((Only.refl _ w).alloc _) t1 t2 t3 hne
      · have h2I : ¬ (p : Int) = 2 := by omega
        have h3I : ¬ (p : Int) = 3 := by omega
        rw [if_neg (by omega)] at HEND
        go_wp2_with fail
        exact HEND.out _ _ _ _ _ _ _ _ _ _ _ _ _ _ _ _ _ HG.out
  · have hcI : ¬ (c : Int) = 0 := by omega
    rw [if_neg (by omega)] at HEND
    by_cases h2 : p = 2
    · subst h2
      go_wp2_with fail
      exact HEND.out _ _ _ _ _ _ _ _ _ _ _ _ _ _ _ _ _ HG.out
    · have h2I : ¬ (p : Int) = 2 := by omega
      by_cases h3 : p = 3
      · subst h3
        go_wp2_with fail
        exact HEND.out _ _ _ _ _ _ _ _ _ _ _ _ _ _ _ _ _ HG.out
      · have h3I : ¬ (p : Int) = 3 := by omega
        go_wp2_with fail
        exact HEND.out _ _ _ _ _ _ _ _ _ _ _ _ _ _ _ _ _ HG.out

theorem filter_snoc (L : List Nat) (k n : Nat) (h : k < L.length) : (L.take (k + 1)).filter (fun x => x != n) = if L[k] = n then (L.take k).filter (fun x => x != n) else (L.take k).filter (fun x => x != n) ++ [L[k]] := by
  rw [take_snoc L k h, List.filter_append]
  by_cases e : L[k] = n
  · rw [if_pos e]; simp [e]
  · rw [if_neg e]; simp [e]
/-- Those who stay, as what has been asked. -/
theorem Fx.turn {w wx wy : World} {b mb : Nat} {m : Fl} {ask l : List Nat} {v9 v' : Value} {a0 : Nat} {d : Int} {who other : Nat} {flag : Bool} {by_ : Nat} (h : Fx w b mb m ask v9 a0 d who other flag by_ wx) (ho : Only (fun _ => False) wx wy) (ht : Tl wy wx.heap.size v' l) : Fx w b mb m l v' a0 d who other flag by_ wy := by
  refine ⟨h.fs.more ho (fun k hk => ?_), ?_, h.ac.only ho (by simp), h.lo⟩
  · rcases hk with hk | hk
    · exact .inr (ht.lt k hk)
    · exact .inl (.inr hk)
  · obtain ⟨ao, cap, e, h1, h2, h3, h4⟩ := ht
    exact ⟨ao, cap, e, h1, h2, fun k hk => ⟨Nat.le_trans h.fs.only.size (h3 k hk).1, (h3 k hk).2⟩, h4⟩
noncomputable def pfB_a : Code := match Try.f4.body.bind (codeIf 19) with | some (.seq a _) => a | _ => .skip
noncomputable def pfB_b : Code := match Try.f4.body.bind (codeIf 19) with | some (.seq _ b) => b | _ => .skip
set_option maxRecDepth 100000 in
set_option maxHeartbeats 8000000 in
theorem pfB (b mb a0 who other by_ c p : Nat) (flag : Bool) (d : Int) (m : Fl) (ask : List Nat) (v9 : Value) (w0 : World) (hl : ask.length ≤ 1000)  (u0 u1 u2 u3 u4 u5 u6 u7 u8 u10 u11 u12 u16 u17 u18 u19 u20 u21 u22 u23 u24 u25 u26 u27 u28 u29 u30 u31 u32 u33 u34 u35 u36 u37 u38 u39 u40 u41 u42 u43 u44 u45 u46 u47 u48 u49 u50 u51 u52 u53 u54 u55 u56 u57 u58 u59 u60 u61 u62 u63 u64 u65 u66 u67 u68 u69 u70 u71 u72 u73 u74 u75 u76 u77 u78 u79 u80 u81 u82 u83 u84 u85 u86 u87 u88 u89 u90 u91 u92 u93 u94 u95 u96 u97 u98 u99 u100 u101 u102 u103 u104 u105 u106 u107 u108 u109 u110 u111 u112 u113 u114 u115 u116 u117 u118 u119 u120 u121 u122 u123 u124 u125 u126 u127 u128 u129 u130 u131 u132 u133 u134 u135 u136 u137 u138 u139 u140 u141 u142 u143 u144 u145 u146 u147 u148 u149 u150 u151 u152 u153 u154 u155 u156 u157 u158 u159 u160 u161 u162 u163 u164 u165 u166 u167 u168 u169 u170 u171 u172 u173 u174 u175 u176 u177 u178 u179 u180 u181 u182 u183 u184 u185 u186 u187 u188 u189 u190 u191 u192 u193 u194 u195 u196 u197 u198 u199 u200 u201 u202 u203 u204 u205 u206 u207 u208 u209 u210 u211 u212 u213 u214 u215 u216 u217 u218 u219 u220 u221 u222 u223 u224 u225 u226 u227 u228 : Value) (Q : Exit → Act → World → Prop) (K9 : Act → World → Prop) (w : World) (hG : Fx w0 b mb m ask v9 a0 d who other flag by_ w) (hK9 : ∀ a w, Code.wp Try.prog pfB_b Q a w → K9 a w)
    (hend : ∀ (y9 y16 y17 y76 y77 y78 y79 y80 y81 y82 y83 y84 y85 y86 y87 y88 y89 y90 y91 y92 y93 y94 y95 y96 y97 y98 y99 y100 y101 y102 : Value) (w' : World), (Fx w0 b mb m (if p = 1 ∧ c = 0 then ask.filter (fun x => x != who) else ask) y9 a0 d who other flag by_ w') → Q .normal ⟨(List.toArray (u0 :: u1 :: u2 :: u3 :: u4 :: u5 :: u6 :: u7 :: u8 :: y9 :: u10 :: u11 :: u12 :: .pointer (some ⟨a0, 0, none⟩) :: .int .i64 (c : Int) :: .int .i64 (p : Int) :: y16 :: y17 :: u18 :: u19 :: u20 :: u21 :: u22 :: u23 :: u24 :: u25 :: u26 :: u27 :: u28 :: u29 :: u30 :: u31 :: u32 :: u33 :: u34 :: u35 :: u36 :: u37 :: u38 :: u39 :: u40 :: u41 :: u42 :: u43 :: u44 :: u45 :: u46 :: u47 :: u48 :: u49 :: u50 :: u51 :: u52 :: u53 :: u54 :: u55 :: u56 :: u57 :: u58 :: u59 :: u60 :: u61 :: u62 :: u63 :: u64 :: u65 :: u66 :: u67 :: u68 :: u69 :: u70 :: u71 :: u72 :: u73 :: u74 :: u75 :: y76 :: y77 :: y78 :: y79 :: y80 :: y81 :: y82 :: y83 :: y84 :: y85 :: y86 :: y87 :: y88 :: y89 :: y90 :: y91 :: y92 :: y93 :: y94 :: y95 :: y96 :: y97 :: y98 :: y99 :: y100 :: y101 :: y102 :: u103 :: u104 :: u105 :: u106 :: u107 :: u108 :: u109 :: u110 :: u111 :: u112 :: u113 :: u114 :: u115 :: u116 :: u117 :: u118 :: u119 :: u120 :: u121 :: u122 :: u123 :: u124 :: u125 :: u126 :: u127 :: u128 :: u129 :: u130 :: u131 :: u132 :: u133 :: u134 :: u135 :: u136 :: u137 :: u138 :: u139 :: u140 :: u141 :: u142 :: u143 :: u144 :: u145 :: u146 :: u147 :: u148 :: u149 :: u150 :: u151 :: u152 :: u153 :: u154 :: u155 :: u156 :: u157 :: u158 :: u159 :: u160 :: u161 :: u162 :: u163 :: u164 :: u165 :: u166 :: u167 :: u168 :: u169 :: u170 :: u171 :: u172 :: u173 :: u174 :: u175 :: u176 :: u177 :: u178 :: u179 :: u180 :: u181 :: u182 :: u183 :: u184 :: u185 :: u186 :: u187 :: u188 :: u189 :: u190 :: u191 :: u192 :: u193 :: u194 :: u195 :: u196 :: u197 :: u198 :: u199 :: u200 :: u201 :: u202 :: u203 :: u204 :: u205 :: u206 :: u207 :: u208 :: u209 :: u210 :: u211 :: u212 :: u213 :: u214 :: u215 :: u216 :: u217 :: u218 :: u219 :: u220 :: u221 :: u222 :: u223 :: u224 :: u225 :: u226 :: u227 :: u228 :: [])), []⟩ w') :
    Code.wp Try.prog pfB_a (Exit.then K9 Q) ⟨(List.toArray (u0 :: u1 :: u2 :: u3 :: u4 :: u5 :: u6 :: u7 :: u8 :: v9 :: u10 :: u11 :: u12 :: .pointer (some ⟨a0, 0, none⟩) :: .int .i64 (c : Int) :: .int .i64 (p : Int) :: u16 :: u17 :: u18 :: u19 :: u20 :: u21 :: u22 :: u23 :: u24 :: u25 :: u26 :: u27 :: u28 :: u29 :: u30 :: u31 :: u32 :: u33 :: u34 :: u35 :: u36 :: u37 :: u38 :: u39 :: u40 :: u41 :: u42 :: u43 :: u44 :: u45 :: u46 :: u47 :: u48 :: u49 :: u50 :: u51 :: u52 :: u53 :: u54 :: u55 :: u56 :: u57 :: u58 :: u59 :: u60 :: u61 :: u62 :: u63 :: u64 :: u65 :: u66 :: u67 :: u68 :: u69 :: u70 :: u71 :: u72 :: u73 :: u74 :: u75 :: u76 :: u77 :: u78 :: u79 :: u80 :: u81 :: u82 :: u83 :: u84 :: u85 :: u86 :: u87 :: u88 :: u89 :: u90 :: u91 :: u92 :: u93 :: u94 :: u95 :: u96 :: u97 :: u98 :: u99 :: u100 :: u101 :: u102 :: u103 :: u104 :: u105 :: u106 :: u107 :: u108 :: u109 :: u110 :: u111 :: u112 :: u113 :: u114 :: u115 :: u116 :: u117 :: u118 :: u119 :: u120 :: u121 :: u122 :: u123 :: u124 :: u125 :: u126 :: u127 :: u128 :: u129 :: u130 :: u131 :: u132 :: u133 :: u134 :: u135 :: u136 :: u137 :: u138 :: u139 :: u140 :: u141 :: u142 :: u143 :: u144 :: u145 :: u146 :: u147 :: u148 :: u149 :: u150 :: u151 :: u152 :: u153 :: u154 :: u155 :: u156 :: u157 :: u158 :: u159 :: u160 :: u161 :: u162 :: u163 :: u164 :: u165 :: u166 :: u167 :: u168 :: u169 :: u170 :: u171 :: u172 :: u173 :: u174 :: u175 :: u176 :: u177 :: u178 :: u179 :: u180 :: u181 :: u182 :: u183 :: u184 :: u185 :: u186 :: u187 :: u188 :: u189 :: u190 :: u191 :: u192 :: u193 :: u194 :: u195 :: u196 :: u197 :: u198 :: u199 :: u200 :: u201 :: u202 :: u203 :: u204 :: u205 :: u206 :: u207 :: u208 :: u209 :: u210 :: u211 :: u212 :: u213 :: u214 :: u215 :: u216 :: u217 :: u218 :: u219 :: u220 :: u221 :: u222 :: u223 :: u224 :: u225 :: u226 :: u227 :: u228 :: [])), []⟩ w := by
  conv => arg 2; whnf
  conv at hK9 => intro a w; arg 1; arg 2; whnf
  have HEND := Lib.hid hend
  have HG := Lib.hid hG
  have hN := hl
  obtain ⟨ao, ca, rfl, hca, -, -, hat⟩ := id hG.tl
  have HAT := Lib.hid hat
  clear hend hG hat
  by_cases hc : p = 1 ∧ c = 0
  · obtain ⟨rfl, rfl⟩ := hc
    rw [if_pos ⟨rfl, rfl⟩] at HEND
    obtain ⟨n, hn⟩ : ∃ n, ask.length = n := ⟨_, rfl⟩
    have HN := Lib.hid hn
    rw [hn] at hN hca HG ⊢
    clear hn hl
    go_wp2
    go_loopw [16, 17] (fun s16 s17 wr => ∃ (k : Nat) (A : Option Addr) (z cz : Nat), k ≤ n ∧ s16 = .slice A z cz ∧ s17 = .int .i64 k ∧ Hid (Only (fun _ => False) w wr ∧ Tl wr w.heap.size (.slice A z cz) ((ask.take k).filter (fun x => x != who)))) (fun s16 s17 _ => n - (intOf s17).toNat)
    case atStart => exact ⟨0, none, 0, 0, by omega, rfl, rfl, Lib.hid ⟨Only.refl _ _, Tl.nil _ _⟩⟩
    case round =>
      obtain ⟨k, A, z, cz, hk, rfl, rfl, HR⟩ := hrel
      by_cases hkl : k < n
      · have hkI : (k : Int) < (n : Int) := by omega
        have hkx : k < ask.length := by rw [HN.out]; exact hkl
        obtain ⟨ga, oa, cur, rfl, hI, hsz, hcell⟩ := HAT.out (by omega)
        have q0 : wr.cell? ⟨ga, oa + k, none⟩ = some (.int .u32 ((ask[k] : Nat) : Int)) := by
          rw [(hI.only HR.out.1 (by simp)).cell]
          exact hcell k _ (List.getElem?_eq_getElem hkx)
        have HFS := Lib.hid (filter_snoc ask k who hkx)
        have HFZ := Lib.hid (show Fz ga oa a0 k ask[k] who wr wr from ⟨q0, (HG.out.ac.only HR.out.1 (by simp)).cell 1, Only.refl _ _⟩)
        clear hI hsz hcell q0
        generalize ask[k] = x at *
        clear hkx
        have hr : ((x : Int) != (who : Int)) = decide (x ≠ who) := by
          by_cases e : x = who
          · subst e; simp
          · rw [decide_eq_true e]; simp; omega
        go_upto_region 24 with (fail)
        refine fo24 ga oa a0 k n ca x who (decide (x ≠ who)) wr hkl hr _ _ _ _ _ _ _ _ _ _ _ _ _ _ _ _ _ _ _ _ _ _ _ _ _ _ _ _ _ _ _ _ _ _ _ _ _ _ _ _ _ _ _ _ _ _ _ _ _ _ _ _ _ _ _ _ _ _ _ _ _ _ _ _ _ _ _ _ _ _ _ _ _ _ _ _ _ _ _ _ _ _ _ _ _ _ _ _ _ _ _ _ _ _ _ _ _ _ _ _ _ _ _ _ _ _ _ _ _ _ _ _ _ _ _ _ _ _ _ _ _ _ _ _ _ _ _ _ _ _ _ _ _ _ _ _ _ _ _ _ _ _ _ _ _ _ _ _ _ _ _ _ _ _ _ _ _ _ _ _ _ _ _ _ _ _ _ _ _ _ _ _ _ _ _ _ _ _ _ _ _ _ _ _ _ _ _ _ _ _ _ _ _ _ _ _ _ _ _ _ _ _ _ _ _ _ _ _ _ _ _ _ _ _ _ _ _ _ _ _ _ _ _ _ _ _ _ wr HFZ.out ?_
        rintro q88 q89 q90 q91 q92 q93 w2 ho2
        have HR2 := Lib.hid (show Only (fun _ => False) w w2 ∧ Tl w2 w.heap.size (.slice A z cz) ((ask.take k).filter (fun x => x != who)) from ⟨HR.out.1.trans ho2 (fun _ _ e => e), HR.out.2.only ho2 (by simp)⟩)
        have q2 : w2.cell? ⟨ga, oa + k, none⟩ = some (.int .u32 (x : Int)) := (ho2.cell (World.block_lt_of_cell? _ _ HFZ.out.a) (by simp)).trans HFZ.out.a
        clear ho2 HR hr
        by_cases hx : x = who
        · have HF := Lib.hid (HFS.out.trans (if_pos hx))
          rw [decide_eq_false (fun h => h hx)]
          clear hx HFS
          go_wp2
          exact ⟨⟨k + 1, A, z, cz, by omega, rfl, by go_num, Lib.hid ⟨HR2.out.1, by rw [HF.out]; exact HR2.out.2⟩⟩, by simp [intOf]; omega⟩
        · have HF := Lib.hid (HFS.out.trans (if_neg hx))
          have hll : ((ask.take k).filter (fun x => x != who)).length ≤ 1000 := Nat.le_trans (List.length_filter_le ..) (by rw [List.length_take]; omega)
          have hsz := HR2.out.1.size
          have HB := Lib.hid (show w.heap.size ≤ (w2.alloc (.cells #[.int .u32 (x : Int)] 30)).heap.size from by simp; omega)
          rw [decide_eq_true hx]
          clear hx HFS hsz
          go_wp2_with (at_builtin; refine wpList_tl_append _ rfl _ _ rfl w.heap.size (.slice A z cz) _ rfl (HR2.out.2.only ((Only.refl (fun _ => False) w2).alloc _) (by simp)) w2.heap.size x rfl ((Is.made w2 _ _).cell 0) hll (HB.out) ?_; intro v' w' t1 t2 t3; obtain ⟨A', cz', e9, -⟩ := id t1; rw [List.length_append, List.length_singleton] at e9; subst e9)
          first
          | exact ⟨⟨k + 1, _, _, _, by omega, rfl, by go_num, Lib.hid ⟨(HR2.out.1.alloc _).trans t2 (fun i hi e => by have := (HR2.out.2.lt i e).1; omega), by rw [HF.out]; exact t1⟩⟩, by simp [intOf]; omega⟩
          | (refine ⟨⟨_, _, _, _, _, _, _, _, _, _, _, _, _, _, _, _, _, _, _, _, _, _, ?_, rfl⟩, ?_⟩
             · exact ⟨k + 1, _, _, _, by omega, rfl, by go_num, Lib.hid ⟨(HR2.out.1.alloc _).trans t2 (fun i hi e => by have := (HR2.out.2.lt i e).1; omega), by rw [HF.out]; exact t1⟩⟩
             · simp [intOf]; omega)
      · obtain rfl : k = n := by omega
        have hR := HR.out
        rw [← HN.out, List.take_length] at hR
        have HR3 := Lib.hid hR
        clear hR
        go_wp2
        exact HEND.out _ _ _ _ _ _ _ _ _ _ _ _ _ _ _ _ _ _ _ _ _ _ _ _ _ _ _ _ _ _ _ (HG.out.turn HR3.out.1 HR3.out.2)
  · rw [if_neg hc] at HEND
    by_cases hp : p = 1
    · subst hp
      have hcI : ¬ (c : Int) = 0 := by omega
      go_wp2_with fail
      exact HEND.out _ _ _ _ _ _ _ _ _ _ _ _ _ _ _ _ _ _ _ _ _ _ _ _ _ _ _ _ _ _ _ HG.out
    · have hpI : ¬ (p : Int) = 1 := by omega
      go_wp2_with fail
      exact HEND.out _ _ _ _ _ _ _ _ _ _ _ _ _ _ _ _ _ _ _ _ _ _ _ _ _ _ _ _ _ _ _ HG.out

end Go.Proofs.Ytelfeedaadkhnaa
