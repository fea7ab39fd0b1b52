/- A region that does not draw, operation by operation, as Reg has it of one that draws. Conditions: as it says. -/
import Derived.Test.YtglgmhdajmncjaaReg
set_option linter.unusedVariables false
namespace Go.Proofs.Ytglgmhdajmncjaa
open Go
section
variable {P : Program} {ops : Array Oper} {Q : Exit → Act → World → Prop}
/-- As wp_region_posts, of any order. -/
theorem any_posts {a : Act} {w : World} (A : List (List Nat)) (loud ws : List Nat) (kill uses : List (List Nat)) (fin killF noF ini : List Nat) (vals : List (Option Value)) (T : (Nat → Value) → Act) (F : World → Prop) (W : Nat → (Nat → Value) → World → Prop) (E : Nat → World → World → Prop)
    (hok : Reg.ok ops A = true) (huse : Reg.usesOk ops A ws kill uses loud fin killF noF ini = true)
    (hT : ∀ x, Reg.fillV ops.toList vals 0 x a = T x)
    (hF : F w) (hini : Reg.Each (fun j => ∀ x, W j x w) ini)
    (hrun : ∀ i o, ops[i]? = some o → Reg.Ob P A loud ws uses killF noF vals F W E ops T i o)
    (hpres : ∀ i ∈ loud, ∀ j ∈ ws, (j != i && !(A.getD j []).contains i && !(kill.getD i []).contains j) = true → ∀ x w w', (noF.contains i = false → F w) → E i w w' → W j x w → W j x w')
    (hend : ∀ x w, (killF = [] → F w) → Reg.Each (fun j => W j (Reg.shown A j x) w) fin → Q .normal (T x) w) :
    wpAny P .any ops Q ops.size (Array.replicate ops.size false) a w := by
  simp only [Reg.usesOk, Bool.and_eq_true, List.all_eq_true, List.mem_range] at huse
  obtain ⟨⟨⟨⟨hui, huF⟩, hu1⟩, hu2⟩, hkill⟩ := huse
  let I : (Nat → Bool) → Act → World → Prop := fun L a' w' => ((∀ k ∈ killF, L k = false) → F w') ∧ ∃ x, (∀ j c, Reg.known vals j = some c → x j = c) ∧ a' = Reg.part ops L x (List.range ops.size) a ∧ (∀ j, (j < ops.size ∧ L j = true) ∨ ini.contains j = true → ws.contains j = true → (∀ k, k < ops.size → (kill.getD k []).contains j = true → L k = false) → W j (Reg.shown A j x) w')
  refine Reg.wpAny_inv A hok I ?_ ?_ ops.size (Array.replicate ops.size false) a w (by simp) (by simp) ?_ ?_
  · rintro L a' w' i o ho hLi hLA hclosed ⟨hF0, x, hN, rfl, hW⟩
    have hoka := Reg.ok_at hok ho
    simp only [Reg.okAt, Bool.and_eq_true, List.all_eq_true, List.mem_range] at hoka
    obtain ⟨⟨⟨ho1, ho2⟩, ho3⟩, ho4⟩ := hoka
    have his : i < ops.size := (Array.getElem?_eq_some_iff.1 ho).1
    have hdst : (ops[i]?).bind (·.dst) = o.dst := by rw [ho]; rfl
    have hF' : noF.contains i = false → F w' := fun hno => hF0 (fun k hk => by
      have hu := huF i his
      rw [hno] at hu
      simp only [Bool.false_eq_true, if_false, List.all_eq_true, Bool.or_eq_true, beq_iff_eq, Bool.and_eq_true, decide_eq_true_eq] at hu
      rcases hu k hk with h | ⟨h1, h2⟩
      · subst h; exact hLi
      · cases hLk : L k with
        | false => rfl
        | true =>
          have := hclosed k h1 hLk i (by simpa using h2)
          rw [hLi] at this
          cases this)
    have hAlt : ∀ j ∈ A.getD i [], j < ops.size := by
      intro j hj
      obtain ⟨k, hk, hkj⟩ := List.any_eq_true.1 (ho2 j hj)
      have : ∀ n i, i < n → ∀ o, ops[i]? = some o → ∀ j ∈ A.getD i [], j < i := by
        intro n
        induction n with
        | zero => intro i h; omega
        | succ n ih =>
          intro i hi o ho j hj
          have hoka := Reg.ok_at hok ho
          simp only [Reg.okAt, Bool.and_eq_true, List.all_eq_true] at hoka
          obtain ⟨k, hk, hkj⟩ := List.any_eq_true.1 (hoka.1.1.2 j hj)
          have hki := hoka.1.1.1 k hk
          simp only [decide_eq_true_eq] at hki
          simp only [Bool.or_eq_true, beq_iff_eq] at hkj
          rcases hkj with rfl | hkj
          · exact hki
          · have hk' : k < ops.size := by have := (Array.getElem?_eq_some_iff.1 ho).1; omega
            have := ih k (by omega) ops[k] (by simp [hk']) j (by simpa using hkj)
            omega
      have := this (i + 1) i (by omega) o ho j hj
      omega
    -- the slots that the operation looks at are as if all were put
    have hlook : ∀ t ∈ o.looksAt ops, (Reg.part ops L x (List.range ops.size) a).tmps[t]? = (Reg.fill ops x a).tmps[t]? := by
      intro t ht
      refine Reg.part_get L (fun _ => true) x t _ a a rfl rfl (fun j hj hd => ⟨?_, rfl⟩)
      have h3 := ho3 j (List.mem_range.1 hj)
      rw [hd] at h3
      simp only [Bool.and_eq_true, Bool.or_eq_true, Bool.not_eq_true', List.contains_eq_mem, decide_eq_true_eq, decide_eq_false_iff_not] at h3
      rcases h3.1 with h | h
      · exact absurd ht h
      · exact hLA j h
    have hev : ∀ y ∈ o.op.operands, (Reg.fill ops x a).eval y = (Reg.part ops L x (List.range ops.size) a).eval y := by
      intro y hy
      cases y with
      | tmp t =>
        have := hlook t (by
          unfold Oper.looksAt
          exact List.mem_append_left _ (List.mem_filterMap.2 ⟨.tmp t, by simpa using hy, rfl⟩))
        simp [Act.eval, this]
      | _ => rfl
    have hwant : Region.wanted o (yielded ops (Reg.fill ops x a).tmps) = Region.wanted o (yielded ops (Reg.part ops L x (List.range ops.size) a).tmps) := by
      unfold Region.wanted
      cases hg : o.guard with
      | none => rfl
      | some gw =>
        obtain ⟨g, want⟩ := gw
        have : yielded ops (Reg.fill ops x a).tmps g = yielded ops (Reg.part ops L x (List.range ops.size) a).tmps g := by
          unfold yielded
          cases ht : (ops[g]?).bind (·.dst) with
          | none => rfl
          | some t =>
            have := hlook t (by
              unfold Oper.looksAt
              exact List.mem_append_right _ (by simp [hg, ht]))
            simp [this]
        simp only [this]
    have hsz : (Reg.fill ops x a).tmps.size = (Reg.part ops L x (List.range ops.size) a).tmps.size := by
      rw [(Reg.part_same L x _ a a).1]
      exact (Reg.part_same (fun _ => true) x _ a a).1
    -- the value is put: what is known then
    have hafter : ∀ v w'', (loud.contains i = true → killF.contains i = false → noF.contains i = false → F w'') → (if loud.contains i then E i w' w'' else w'' = w') → (∀ c, Reg.known vals i = some c → v = c) → (ws.contains i = true → W i (Reg.shown A i (fun k => if k = i then v else x k)) w'') →
        I (fun j => L j || j == i) ((Reg.part ops L x (List.range ops.size) a).put o.dst v) w'' := by
      intro v w'' hF'' hE hVi hWi
      have hFn : (∀ k ∈ killF, (fun j => L j || j == i) k = false) → F w'' := by
        intro hk
        cases hl : loud.contains i with
        | false =>
          rw [hl] at hE
          simp only [Bool.false_eq_true, if_false] at hE
          rw [hE]
          exact hF0 (fun k hkk => by
            have := hk k hkk
            simp only [Bool.or_eq_false_iff] at this
            exact this.1)
        | true =>
          have hki : killF.contains i = false := by
            cases hc : killF.contains i with
            | false => rfl
            | true =>
              have := hk i (by simpa using hc)
              simp at this
          cases hno : noF.contains i with
          | false => exact hF'' hl hki hno
          | true =>
            exfalso
            have hu := huF i his
            rw [hno, hl, hki] at hu
            simp only [if_true, Bool.not_true, Bool.or_self, Bool.false_or, List.any_eq_true] at hu
            obtain ⟨k, hk1, hk2⟩ := hu
            have h1 := hk k hk1
            have h2 := hLA k (by simpa using hk2)
            simp [h2] at h1
      refine ⟨hFn, fun k => if k = i then v else x k, ?_, ?_, ?_⟩
      · intro j c hc
        by_cases hji : j = i
        · subst hji; simpa using hVi c hc
        · simpa [hji] using hN j c hc
      · rw [← hdst]
        refine (Reg.part_put L x i v hLi ?_ _ a List.nodup_range (List.mem_range.2 his)).symm
        intro j hji hdj
        rcases Nat.lt_or_ge j ops.size with hjs | hjs
        · have h3 := ho3 j hjs
          cases hdi : (ops[i]?).bind (·.dst) with
          | none => rfl
          | some t =>
            rw [hdj, hdi] at h3
            simp only [Bool.and_eq_true, Bool.or_eq_true, beq_iff_eq, hji, false_or] at h3
            rw [← hdst, hdi] at h3
            simp at h3
        · rw [← hdj]; simp [Array.getElem?_eq_none hjs]
      · intro j hj hjw hk
        by_cases hji : j = i
        · subst hji; exact hWi hjw
        · have hj' : (j < ops.size ∧ L j = true) ∨ ini.contains j = true := by
            have : (j == i) = false := by simpa using hji
            rcases hj with ⟨h1, h2⟩ | h
            · exact .inl ⟨h1, by simpa [this] using h2⟩
            · exact .inr h
          have hnot : (A.getD j []).contains i = false := by
            cases hc : (A.getD j []).contains i with
            | false => rfl
            | true =>
              rcases hj' with ⟨hj1, hLj'⟩ | h
              · have := hclosed j hj1 hLj' i (by simpa using hc)
                rw [hLi] at this
                cases this
              · have := (hui j (by simpa using h)).2
                rw [List.isEmpty_iff] at this
                rw [this] at hc
                simp at hc
          rw [Reg.shown_upd A i j x v hji hnot]
          have h0 := hW j hj' hjw (fun k hkk hc => by
            have := hk k hkk hc
            simp only [Bool.or_eq_false_iff] at this
            exact this.1)
          have hki : (kill.getD i []).contains j = false := by
            cases hc : (kill.getD i []).contains j with
            | false => rfl
            | true =>
              have := hk i his hc
              simp at this
          cases hl : loud.contains i with
          | false => rw [hl] at hE; simp only [Bool.false_eq_true, if_false] at hE; rw [hE]; exact h0
          | true => rw [hl] at hE; simp only [if_true] at hE; exact hpres i (by simpa using hl) j (by simpa using hjw) (by rw [hnot, hki]; simpa using hji) _ w' w'' hF' hE h0
    have hTx : T x = Reg.fill ops x a := by rw [← hT x]; exact Reg.fillV_fill vals x a hN
    have hr := hrun i o ho x w' hF' (Reg.each_iff.2 fun j hj => by
      have h := hu1 i his j hj
      obtain ⟨⟨hj1, hj2⟩, hj3⟩ := h
      have hj1 : (j < ops.size ∧ L j = true) ∨ ini.contains j = true := by
        rw [Bool.or_eq_true] at hj1
        rcases hj1 with h | h
        · have h : j ∈ A.getD i [] := by simpa using h
          exact .inl ⟨hAlt j h, hLA j h⟩
        · exact .inr h
      refine hW j hj1 hj2 (fun k hk hc => ?_)
      have hj4 := hj3 k hk
      simp only [Bool.or_eq_true, Bool.not_eq_true'] at hj4
      rcases hj4 with (h | h) | h
      · rw [hc] at h; cases h
      · rw [beq_iff_eq] at h; subst h; exact hLi
      · cases hLk : L k with
        | false => rfl
        | true =>
          have := hclosed k hk hLk i (by simpa using h)
          rw [hLi] at this
          cases this)
    rw [hTx] at hr
    unfold wpOp
    simp only [ho]
    rw [hwant] at hr
    split
    · rename_i hw
      refine .inl (Oper.wp_mono ?_ (Reg.wp_swap (a := Reg.fill ops x a) (R := fun v w'' => (loud.contains i = true → killF.contains i = false → noF.contains i = false → F w'') ∧ (if loud.contains i then E i w' w'' else w'' = w') ∧ (∀ c, Reg.known vals i = some c → v = c) ∧ (ws.contains i = true → W i (Reg.shown A i (fun k => if k = i then v else x k)) w'')) (by simpa using ho4) hsz hev ((hr _ (fun v w'' h1 h2 h3 h4 => ⟨v, rfl, h1, h2, h3, h4⟩)).1 hw)))
      rintro b w'' ⟨v, rfl, h1, h2, h3, h4⟩
      exact hafter v w'' h1 h2 h3 h4
    · rename_i hw
      obtain ⟨h2, h3, h4⟩ := (hr (fun _ _ => True) (fun _ _ _ _ _ _ => trivial)).2 (by simpa using hw)
      refine hafter undef w' (fun _ _ hno => hF' hno) ?_ h3 h4
      cases hl : loud.contains i with
      | false => simp
      | true => rw [hl] at h2; simpa using h2
  · rintro L a' w' hall ⟨hF', x, hN, rfl, hW⟩
    have e : Reg.part ops L x (List.range ops.size) a = Reg.fill ops x a := Reg.part_list _ _ _ _ _ (fun j hj => hall j (List.mem_range.1 hj))
    rw [e]
    have hTx : T x = Reg.fill ops x a := by rw [← hT x]; exact Reg.fillV_fill vals x a hN
    rw [← hTx]
    refine hend x w' (fun h => hF' (by rw [h]; simp)) (Reg.each_iff.2 fun j hj => ?_)
    have h := hu2 j hj
    obtain ⟨⟨hj1, hj2⟩, hj3⟩ := h
    have hj1 : (j < ops.size ∧ L j = true) ∨ ini.contains j = true := by
      rw [Bool.or_eq_true] at hj1
      rcases hj1 with h | h
      · have h : j < ops.size := by simpa using h
        exact .inl ⟨h, hall j h⟩
      · exact .inr h
    exact hW j hj1 hj2 (fun k hk hc => by
      have := hj3 k hk
      rw [hc] at this
      cases this)
  · intro j hj h
    simp [hj] at h
  · refine ⟨fun _ => hF, fun j => (Reg.known vals j).getD undef, fun j c hc => by simp [hc], ?_, ?_⟩
    · have : ∀ (js : List Nat), (∀ j ∈ js, j < ops.size) → Reg.part ops (fun j => (Array.replicate ops.size false).getD j true) (fun j => (Reg.known vals j).getD undef) js a = a := by
        intro js
        induction js with
        | nil => intro _; rfl
        | cons j js ih =>
          intro h
          have hj := h j (List.mem_cons_self ..)
          have := ih (fun k hk => h k (List.mem_cons_of_mem _ hk))
          simp only [Reg.part, List.foldl_cons] at this ⊢
          have e : (Array.replicate ops.size false).getD j true = false := by simp [hj]
          rw [e]
          simpa using this
      exact (this _ (fun j hj => List.mem_range.1 hj)).symm
    · intro j hj hjw hk
      rcases hj with ⟨hj, h⟩ | h
      · simp [hj] at h
      · exact Reg.each_iff.1 hini j (by simpa using h) _

/-- The same, of a region that does not draw. -/
theorem wp_region_text {id : Nat} {a : Act} {w : World} (A : List (List Nat)) (loud ws : List Nat) (kill uses : List (List Nat)) (fin killF noF ini : List Nat) (vals : List (Option Value)) (T : (Nat → Value) → Act) (F : World → Prop) (W : Nat → (Nat → Value) → World → Prop) (E : Nat → World → World → Prop)
    (hl : Region.linearise .any ops 0 = List.range ops.size) (hok : Reg.ok ops A = true) (huse : Reg.usesOk ops A ws kill uses loud fin killF noF ini = true)
    (hT : ∀ x, Reg.fillV ops.toList vals 0 x a = T x)
    (hF : F w) (hini : Reg.Each (fun j => ∀ x, W j x w) ini)
    (hrun : ∀ i o, ops[i]? = some o → Reg.Ob P A loud ws uses killF noF vals F W E ops T i o)
    (hpres : ∀ i ∈ loud, ∀ j ∈ ws, (j != i && !(A.getD j []).contains i && !(kill.getD i []).contains j) = true → ∀ x w w', (noF.contains i = false → F w) → E i w w' → W j x w → W j x w')
    (hend : ∀ x w, (killF = [] → F w) → Reg.Each (fun j => W j (Reg.shown A j x) w) fin → Q .normal (T x) w) :
    (Code.region id ops false).wp P Q a w :=
  wp_region (by
    have h := wpAny_sound ops.size 0 _ a w (any_posts A loud ws kill uses fin killF noF ini vals T F W E hok huse hT hF hini hrun hpres hend)
    rw [show Region.linearise.go .any ops ops.size 0 (Array.replicate ops.size false) [] = List.range ops.size from hl] at h
    exact h)
end
end Go.Proofs.Ytglgmhdajmncjaa
