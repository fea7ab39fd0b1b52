/- A region that draws its order, operation by operation: each once, whatever the order. Conditions: as it says. -/
import Derived.Orders
import Derived.KernelRfl
import Derived.Deep.RegionWith
set_option linter.unusedVariables false
namespace Go.Proofs.Ytglgmhdajmncjaa
open Go

/-- The operations that an operation's own edges name. -/
def Reg.deps (o : Oper) : List Nat := o.after.toList.filterMap fun e => if Region.binds .any e then some e.on else none
/-- All that stand ahead of each operation. -/
def Reg.aheads : List Oper → List (List Nat) → List (List Nat)
  | [], acc => acc
  | o :: os, acc => Reg.aheads os (acc ++ [(Reg.deps o ++ (Reg.deps o).flatMap fun k => acc.getD k []).eraseDups])
def Reg.ahead (ops : Array Oper) : List (List Nat) := Reg.aheads ops.toList []
def Reg.select : Op → Bool
  | .select .. => true
  | _ => false
/-- What of a region is looked through by reckoning. -/
def Reg.okAt (ops : Array Oper) (A : List (List Nat)) (i : Nat) (o : Oper) : Bool :=
  (Reg.deps o).all (fun k => decide (k < i)) &&
  (A.getD i []).all (fun j => (Reg.deps o).any fun k => k == j || (A.getD k []).contains j) &&
  (List.range ops.size).all (fun j => match (ops[j]?).bind (·.dst) with
    | none => true
    | some t => (!(o.looksAt ops).contains t || (A.getD i []).contains j) && (j == i || o.dst != some t)) &&
  !Reg.select o.op
def Reg.ok (ops : Array Oper) (A : List (List Nat)) : Bool :=
  (List.range ops.size).all fun i => match ops[i]? with
    | none => true
    | some o => Reg.okAt ops A i o

section
variable {P : Program} {ops : Array Oper} {Q : Exit → Act → World → Prop}

theorem Reg.ok_at {A : List (List Nat)} (h : Reg.ok ops A = true) {i : Nat} {o : Oper} (ho : ops[i]? = some o) : Reg.okAt ops A i o = true := by
  have hi : i < ops.size := (Array.getElem?_eq_some_iff.1 ho).1
  simp only [Reg.ok, List.all_eq_true, List.mem_range] at h
  have := h i hi
  rw [ho] at this
  exact this

/-- Some of the operations' values are put into their slots. -/
def Reg.part (ops : Array Oper) (L : Nat → Bool) (x : Nat → Value) (js : List Nat) (a : Act) : Act :=
  js.foldl (fun a j => if L j then a.put ((ops[j]?).bind (·.dst)) (x j) else a) a
/-- All of them. -/
def Reg.fill (ops : Array Oper) (x : Nat → Value) (a : Act) : Act := Reg.part ops (fun _ => true) x (List.range ops.size) a

theorem Act.put_size (a : Act) (d : Option Tmp) (v : Value) : (a.put d v).tmps.size = a.tmps.size := by cases d <;> simp [Act.put]
theorem Act.put_def (a : Act) (d : Option Tmp) (v : Value) : (a.put d v).defers = a.defers := by cases d <;> rfl
theorem Act.put_get (a b : Act) (d : Option Tmp) (v : Value) (t : Nat) (hs : a.tmps.size = b.tmps.size) (h : a.tmps[t]? = b.tmps[t]?) : (a.put d v).tmps[t]? = (b.put d v).tmps[t]? := by
  cases d with
  | none => exact h
  | some d => simp only [Act.put, Array.getElem?_setIfInBounds, hs, h]
theorem Act.put_get_ne (a : Act) (d : Option Tmp) (v : Value) (t : Nat) (h : d ≠ some t) : (a.put d v).tmps[t]? = a.tmps[t]? := by
  cases d with
  | none => rfl
  | some d => simp only [Act.put]; rw [Array.getElem?_setIfInBounds_ne (fun e => h (by rw [e]))]

theorem Reg.part_same (L : Nat → Bool) (x : Nat → Value) : ∀ (js : List Nat) (a b : Act), (Reg.part ops L x js a).tmps.size = a.tmps.size ∧ (Reg.part ops L x js a).defers = a.defers := by
  intro js
  induction js with
  | nil => intro a b; exact ⟨rfl, rfl⟩
  | cons j js ih =>
    intro a b
    simp only [Reg.part, List.foldl_cons] at ih ⊢
    obtain ⟨h1, h2⟩ := ih (if L j = true then a.put ((ops[j]?).bind (·.dst)) (x j) else a) a
    rw [h1, h2]
    split
    · exact ⟨Act.put_size .., Act.put_def ..⟩
    · exact ⟨rfl, rfl⟩

/-- A slot that no unlisted operation writes is the same, if all are put. -/
theorem Reg.part_get (L M : Nat → Bool) (x : Nat → Value) (t : Nat) : ∀ (js : List Nat) (a b : Act), a.tmps.size = b.tmps.size → a.tmps[t]? = b.tmps[t]? →
    (∀ j ∈ js, (ops[j]?).bind (·.dst) = some t → L j = true ∧ M j = true) → (Reg.part ops L x js a).tmps[t]? = (Reg.part ops M x js b).tmps[t]? := by
  intro js
  induction js with
  | nil => intro a b _ h _; exact h
  | cons j js ih =>
    intro a b hs h hl
    simp only [Reg.part, List.foldl_cons] at ih ⊢
    have hsz : ∀ (c : Bool) (a : Act), (if c = true then a.put ((ops[j]?).bind (·.dst)) (x j) else a).tmps.size = a.tmps.size := fun c a => by
      cases c <;> simp [Act.put_size]
    refine ih _ _ (by rw [hsz, hsz]; exact hs) ?_ (fun k hk => hl k (List.mem_cons_of_mem _ hk))
    by_cases hd : (ops[j]?).bind (·.dst) = some t
    · obtain ⟨h1, h2⟩ := hl j (List.mem_cons_self ..) hd
      rw [h1, h2]
      simp only [if_true]
      exact Act.put_get a b _ _ t hs h
    · have e : ∀ (c : Bool) (a : Act), (if c = true then a.put ((ops[j]?).bind (·.dst)) (x j) else a).tmps[t]? = a.tmps[t]? := fun c a => by
        cases c
        · simp
        · simpa using Act.put_get_ne a _ _ t hd
      rw [e, e]
      exact h

/-- One more is put. -/
theorem Reg.part_put (L : Nat → Bool) (x : Nat → Value) (i : Nat) (v : Value) (hi : L i = false) (hd : ∀ j, j ≠ i → (ops[j]?).bind (·.dst) = (ops[i]?).bind (·.dst) → (ops[i]?).bind (·.dst) = none) :
    ∀ (js : List Nat) (a : Act), js.Nodup → i ∈ js → Reg.part ops (fun j => L j || j == i) (fun j => if j = i then v else x j) js a = (Reg.part ops L x js a).put ((ops[i]?).bind (·.dst)) v := by
  have comm : ∀ (js : List Nat) (a : Act), i ∉ js → Reg.part ops (fun j => L j || j == i) (fun j => if j = i then v else x j) js (a.put ((ops[i]?).bind (·.dst)) v) = (Reg.part ops L x js a).put ((ops[i]?).bind (·.dst)) v := by
    intro js
    induction js with
    | nil => intro a _; rfl
    | cons j js ih =>
      intro a hn
      simp only [Reg.part, List.foldl_cons] at ih ⊢
      have hji : j ≠ i := fun e => hn (by rw [e]; exact List.mem_cons_self ..)
      have hn' : i ∉ js := fun h => hn (List.mem_cons_of_mem _ h)
      have e1 : (j == i) = false := by simpa using hji
      simp only [e1, Bool.or_false, if_neg hji]
      cases hL : L j
      · simp only [Bool.false_eq_true, if_false]; exact ih a hn'
      · simp only [if_true]
        rw [← ih _ hn']
        congr 1
        cases hdi : (ops[i]?).bind (·.dst) with
        | none => rfl
        | some d =>
          exact Act.put_comm _ _ _ (fun d' h' h'' => by
            injection h' with h'
            subst h'
            have := hd j hji (by rw [h'', hdi])
            rw [hdi] at this
            cases this)
  intro js
  induction js with
  | nil => intro a _ h; cases h
  | cons j js ih =>
    intro a hnd hmem
    obtain ⟨hn, hnd'⟩ := List.nodup_cons.1 hnd
    by_cases hji : j = i
    · subst hji
      have := comm js a hn
      simp only [Reg.part, List.foldl_cons] at this ⊢
      simp only [hi, beq_self_eq_true, Bool.or_true, if_true, Bool.false_eq_true, if_false]
      exact this
    · have hm : i ∈ js := by
        cases hmem with
        | head => exact absurd rfl hji
        | tail _ h => exact h
      have e1 : (j == i) = false := by simpa using hji
      have := fun a => ih a hnd' hm
      simp only [Reg.part, List.foldl_cons] at this ⊢
      simp only [e1, Bool.or_false, if_neg hji]
      exact this _

theorem Reg.part_congr (L : Nat → Bool) (x y : Nat → Value) : ∀ (js : List Nat) (a : Act), (∀ j ∈ js, x j = y j) → Reg.part ops L x js a = Reg.part ops L y js a := by
  intro js
  induction js with
  | nil => intro a _; rfl
  | cons j js ih =>
    intro a h
    simp only [Reg.part, List.foldl_cons] at ih ⊢
    rw [h j (List.mem_cons_self ..)]
    exact ih _ (fun k hk => h k (List.mem_cons_of_mem _ hk))
theorem Reg.part_list (L M : Nat → Bool) (x : Nat → Value) : ∀ (js : List Nat) (a : Act), (∀ j ∈ js, L j = M j) → Reg.part ops L x js a = Reg.part ops M x js a := by
  intro js
  induction js with
  | nil => intro a _; rfl
  | cons j js ih =>
    intro a h
    simp only [Reg.part, List.foldl_cons] at ih ⊢
    rw [h j (List.mem_cons_self ..)]
    exact ih _ (fun k hk => h k (List.mem_cons_of_mem _ hk))

/-- An operation that goes in one act goes in another one where its operands are the same; what it yields is put. -/
theorem Reg.wp_swap {o : Oper} {a b : Act} {w : World} {R : Value → World → Prop} (hs : Reg.select o.op = false) (hsz : a.tmps.size = b.tmps.size) (he : ∀ x ∈ o.op.operands, a.eval x = b.eval x)
    (h : Oper.wp P o a w (fun a' w' => ∃ v, a' = a.put o.dst v ∧ R v w') (fun _ _ _ => False)) :
    Oper.wp P o b w (fun b' w' => ∃ v, b' = b.put o.dst v ∧ R v w') Q := by
  have hsel : ∀ cs bl, o.op ≠ .select cs bl := fun cs bl e => by rw [e] at hs; simp [Reg.select] at hs
  have key : ∀ v v', a.put o.dst v = a.put o.dst v' → b.put o.dst v = b.put o.dst v' := fun v v' e => by
    cases hd : o.dst with
    | none => rfl
    | some d =>
      rw [hd] at e
      simp only [Act.put] at e ⊢
      by_cases hlt : d < a.tmps.size
      · have h1 := congrArg (fun z : Act => z.tmps[d]?) e
        simp [hlt] at h1
        rw [h1]
      · have hb : ¬ d < b.tmps.size := hsz ▸ hlt
        simp [Array.setIfInBounds, hb]
  unfold Oper.wp at *
  rw [execOp_congr o hsel he] at h
  generalize (execOp b.eval o).run P w = r at *
  cases r with
  | ok n w' =>
    cases n <;> simp only [Oper.upon] at h ⊢
    case value v => obtain ⟨v', e, hR⟩ := h; exact ⟨v', key _ _ e, hR⟩
    case skip => obtain ⟨v', e, hR⟩ := h; exact ⟨v', key _ _ e, hR⟩
    case defer d =>
      obtain ⟨v', e, _⟩ := h
      have h1 := congrArg (fun z : Act => z.defers.length) e
      simp [Act.put_def] at h1
    case enter f args =>
      refine Calls.mono h (fun e w'' he => ?_)
      cases e with
      | returned v => obtain ⟨v', e, hR⟩ := he; exact ⟨v', key _ _ e, hR⟩
      | panicked c => exact he.elim
      | outgrown => obtain ⟨_, _, hf⟩ := he; exact hf.elim
    case row r args => refine Rows.mono h (fun v w'' he => ?_); obtain ⟨v', e, hR⟩ := he; exact ⟨v', key _ _ e, hR⟩
  | halt x w' => cases x <;> simp only [Oper.upon] at h <;> exact h.elim

/-- Of the values only those are shown that stand ahead of operation j, and its own. -/
def Reg.shown (A : List (List Nat)) (j : Nat) (x : Nat → Value) : Nat → Value := fun k => bif k == j || (A.getD j []).contains k then x k else undef
/-- What is known of each operation of a list. -/
def Reg.Each (p : Nat → Prop) : List Nat → Prop
  | [] => True
  | j :: js => p j ∧ Reg.Each p js
theorem Reg.each_iff {p : Nat → Prop} : ∀ {js : List Nat}, Reg.Each p js ↔ ∀ j ∈ js, p j
  | [] => by simp [Reg.Each]
  | j :: js => by simp only [Reg.Each, List.forall_mem_cons, Reg.each_iff]

theorem Reg.shown_upd (A : List (List Nat)) (i j : Nat) (x : Nat → Value) (v : Value) (hj : j ≠ i) (hA : (A.getD j []).contains i = false) : Reg.shown A j (fun k => if k = i then v else x k) = Reg.shown A j x := by
  funext k
  unfold Reg.shown
  by_cases hk : k = i
  · subst hk
    have : (k == j) = false := by simpa using Ne.symm hj
    simp only [this, hA, Bool.or_self, cond_false]
  · simp only [if_neg hk]

/-- All operations that are ready are met, each with all that stand ahead of it; then all are listed. -/
theorem Reg.wpAny_inv (A : List (List Nat)) (hok : Reg.ok ops A = true) (I : (Nat → Bool) → Act → World → Prop)
    (hstep : ∀ (L : Nat → Bool) a w i o, ops[i]? = some o → L i = false → (∀ j ∈ A.getD i [], L j = true) → (∀ j, j < ops.size → L j = true → ∀ k ∈ A.getD j [], L k = true) → I L a w → wpOp P ops Q i (I (fun j => L j || j == i)) a w)
    (hend : ∀ (L : Nat → Bool) a w, (∀ j, j < ops.size → L j = true) → I L a w → Q .normal a w) :
    ∀ (fuel : Nat) (listed : Array Bool) (a : Act) (w : World), listed.size = ops.size → (listed.toList.filter (! ·)).length = fuel →
      (∀ j, j < ops.size → listed.getD j true = true → ∀ k ∈ A.getD j [], listed.getD k false = true) →
      I (fun j => listed.getD j true) a w → wpAny P .any ops Q fuel listed a w := by
  have hdone : ∀ (listed : Array Bool), listed.size = ops.size → Region.ready .any ops listed = [] → ∀ j, j < ops.size → listed.getD j true = true := by
    intro listed hsz hr j
    induction j using Nat.strongRecOn with
    | ind j ih =>
      intro hj
      cases hl : listed.getD j true with
      | true => rfl
      | false =>
        exfalso
        have : j ∈ Region.ready .any ops listed := by
          refine mem_ready.2 ⟨hl, ops[j], by simp [hj], fun e he hb => ?_⟩
          have hoka := Reg.ok_at hok (i := j) (o := ops[j]) (by simp [hj])
          simp only [Reg.okAt, Bool.and_eq_true, List.all_eq_true, decide_eq_true_eq] at hoka
          have hlt := hoka.1.1.1 e.on (by
            unfold Reg.deps
            exact List.mem_filterMap.2 ⟨e, by simpa using he, by simp [hb]⟩)
          have := ih e.on hlt (by omega)
          have hlt' : e.on < listed.size := by omega
          simpa [hlt'] using this
        rw [hr] at this
        cases this
  have hA : ∀ (listed : Array Bool), listed.size = ops.size → (∀ j, j < ops.size → listed.getD j true = true → ∀ k ∈ A.getD j [], listed.getD k false = true) → ∀ i o, ops[i]? = some o → i ∈ Region.ready .any ops listed → ∀ j ∈ A.getD i [], listed.getD j false = true := by
    intro listed hsz hcl i o ho hi j hj
    obtain ⟨_, o', ho', hall⟩ := mem_ready.1 hi
    rw [ho] at ho'
    injection ho' with ho'
    subst ho'
    have hoka := Reg.ok_at hok ho
    simp only [Reg.okAt, Bool.and_eq_true, List.all_eq_true] at hoka
    have h1 := hoka.1.1.2 j hj
    obtain ⟨k, hk, hkj⟩ := List.any_eq_true.1 h1
    have hkl : listed.getD k false = true := by
      unfold Reg.deps at hk
      obtain ⟨e, he, heq⟩ := List.mem_filterMap.1 hk
      split at heq
      · rename_i hb
        injection heq with heq
        subst heq
        exact hall e (by simpa using he) hb
      · cases heq
    simp only [Bool.or_eq_true, beq_iff_eq] at hkj
    rcases hkj with rfl | hkj
    · exact hkl
    · have hks : k < listed.size := by
        rcases Nat.lt_or_ge k listed.size with h | h
        · exact h
        · simp [Array.getElem?_eq_none h] at hkl
      exact hcl k (by omega) (by simpa [hks] using hkl) j (by simpa using hkj)
  intro fuel
  induction fuel with
  | zero =>
    intro listed a w hsz hf hcl hI
    have hall : ∀ j, j < ops.size → listed.getD j true = true := by
      intro j hj
      have h0 := List.filter_eq_nil_iff.1 (List.eq_nil_of_length_eq_zero hf)
      have hm : listed[j]'(by omega) ∈ listed.toList := by simp
      have := h0 _ hm
      have hj' : j < listed.size := by omega
      simpa [hj'] using this
    refine ⟨?_, hend _ a w hall hI⟩
    rw [List.eq_nil_iff_forall_not_mem]
    intro i hi
    obtain ⟨h0, o, ho, _⟩ := mem_ready.1 hi
    rw [hall i (Array.getElem?_eq_some_iff.1 ho).1] at h0
    cases h0
  | succ fuel ih =>
    intro listed a w hsz hf hcl hI
    refine ⟨fun hr => hend _ a w (hdone listed hsz hr) hI, fun i hi => ?_⟩
    obtain ⟨hli, o, ho, _⟩ := mem_ready.1 hi
    have his : i < ops.size := (Array.getElem?_eq_some_iff.1 ho).1
    have hil : i < listed.size := by omega
    have hAi := hA listed hsz hcl i o ho hi
    have hstep' := hstep (fun j => listed.getD j true) a w i o ho hli (fun j hj => by
      have h := hAi j hj
      have hjs : j < listed.size := by
        rcases Nat.lt_or_ge j listed.size with h' | h'
        · exact h'
        · simp [Array.getElem?_eq_none h'] at h
      simpa [hjs] using h) (fun j hj hlj k hk => by
      have h := hcl j hj hlj k hk
      have hks : k < listed.size := by
        rcases Nat.lt_or_ge k listed.size with h' | h'
        · exact h'
        · simp [Array.getElem?_eq_none h'] at h
      simpa [hks] using h) hI
    have hL : (fun j => listed.getD j true || j == i) = fun j => (listed.setIfInBounds i true).getD j true := by
      funext j
      by_cases hji : i = j
      · subst hji; simp [hil]
      · rw [getD_set_ne true hji]
        have : (j == i) = false := by simpa using Ne.symm hji
        rw [this, Bool.or_false]
    rw [hL] at hstep'
    refine wpOp_mono (fun a' w' h' => ih _ a' w' (by simpa using hsz) ?_ ?_ h') hstep'
    · have hl0 : listed[i] = false := by simpa [hil] using hli
      have e : (listed.setIfInBounds i true).toList = listed.toList.set i true := by simp
      rw [e]
      have hcount : ∀ (l : List Bool) (i : Nat) (h : i < l.length), l[i] = false → ((l.set i true).filter (! ·)).length + 1 = (l.filter (! ·)).length := by
        intro l
        induction l with
        | nil => intro i h; simp at h
        | cons b l ihl =>
          intro i h hb
          cases i with
          | zero => simp at hb; subst hb; simp
          | succ i =>
            have := ihl i (by simpa using h) (by simpa using hb)
            cases b <;> simp at this ⊢ <;> omega
      have := hcount listed.toList i (by simpa using hil) (by simpa using hl0)
      omega
    · intro j hj hlj k hk
      by_cases hji : i = j
      · subst hji
        exact getD_set_true (hAi k hk)
      · rw [getD_set_ne true hji] at hlj
        exact getD_set_true (hcl j hj hlj k hk)

/-- All of them, those whose values are known by these. -/
def Reg.fillV : List Oper → List (Option Value) → Nat → (Nat → Value) → Act → Act
  | [], _, _, _, a => a
  | o :: os, [], j, x, a => Reg.fillV os [] (j + 1) x (a.put o.dst (x j))
  | o :: os, none :: vs, j, x, a => Reg.fillV os vs (j + 1) x (a.put o.dst (x j))
  | o :: os, some v :: vs, j, x, a => Reg.fillV os vs (j + 1) x (a.put o.dst v)
def Reg.known (vals : List (Option Value)) (j : Nat) : Option Value := vals.getD j none
theorem Reg.fillV_eq (x : Nat → Value) : ∀ (os : List Oper) (vs : List (Option Value)) (j : Nat) (a : Act) (pre : List Oper), pre.length = j → (∀ k c, k < os.length → vs.getD k none = some c → x (j + k) = c) →
    Reg.fillV os vs j x a = Reg.part (pre ++ os).toArray (fun _ => true) x (List.range' j os.length) a := by
  intro os
  induction os with
  | nil => intro vs j a pre _ _; simp [Reg.fillV, Reg.part]
  | cons o os ih =>
    intro vs j a pre hp hx
    have hat : ((pre ++ o :: os).toArray[j]?).bind (·.dst) = o.dst := by
      have : (pre ++ o :: os).toArray[j]? = some o := by
        simp [hp]
      rw [this]; rfl
    have hgo : ∀ vs', (∀ k c, k < os.length → vs'.getD k none = some c → x (j + 1 + k) = c) → Reg.fillV os vs' (j + 1) x (a.put o.dst (x j)) = Reg.part (pre ++ o :: os).toArray (fun _ => true) x (List.range' j (o :: os).length) a := by
      intro vs' hv
      rw [ih vs' (j + 1) _ (pre ++ [o]) (by simp [hp]) hv]
      simp only [List.append_assoc, List.singleton_append, List.length_cons, List.range'_succ]
      simp only [Reg.part, List.foldl_cons, if_true, hat]
    cases vs with
    | nil => exact hgo [] (by simp)
    | cons v vs =>
      have htl : ∀ k c, k < os.length → vs.getD k none = some c → x (j + 1 + k) = c := fun k c hk hc => by
        have := hx (k + 1) c (by simpa using hk) (by simpa using hc)
        rwa [show j + 1 + k = j + (k + 1) by omega]
      cases v with
      | none => exact hgo vs htl
      | some v =>
        have h0 : x j = v := by simpa using hx 0 v (by simp) (by simp)
        have := hgo vs htl
        rw [h0] at this
        exact this
theorem Reg.fillV_fill (vals : List (Option Value)) (x : Nat → Value) (a : Act) (hx : ∀ j c, Reg.known vals j = some c → x j = c) : Reg.fillV ops.toList vals 0 x a = Reg.fill ops x a := by
  have := Reg.fillV_eq x ops.toList vals 0 a [] rfl (fun k c _ hc => by rw [Nat.zero_add]; exact hx k c hc)
  rw [this]
  simp [Reg.fill, List.range_eq_range']

/-- The posts that operation i may use: they stand ahead of it, and nothing that may be behind them has struck them. -/
def Reg.usesOk (ops : Array Oper) (A : List (List Nat)) (ws : List Nat) (kill uses : List (List Nat)) (loud fin killF noF ini : List Nat) : Bool :=
  (ini.all fun j => decide (ops.size ≤ j) && (A.getD j []).isEmpty) &&
  ((List.range ops.size).all fun i => if noF.contains i then !loud.contains i || killF.contains i || killF.any (fun k => (A.getD i []).contains k) else killF.all fun k => k == i || (decide (k < ops.size) && (A.getD k []).contains i)) &&
  ((List.range ops.size).all fun i => (uses.getD i []).all fun j => ((A.getD i []).contains j || ini.contains j) && ws.contains j && (List.range ops.size).all fun k => !(kill.getD k []).contains j || k == i || (A.getD k []).contains i) &&
  (fin.all fun j => (decide (j < ops.size) || ini.contains j) && ws.contains j && (List.range ops.size).all fun k => !(kill.getD k []).contains j) &&
  ((List.range ops.size).all fun i => (kill.getD i []).all fun j => (A.getD i []).contains j || ini.contains j)

/-- What is to be shown of operation i. -/
def Reg.Ob (P : Program) (A : List (List Nat)) (loud ws : List Nat) (uses : List (List Nat)) (killF noF : List Nat) (vals : List (Option Value)) (F : World → Prop) (W : Nat → (Nat → Value) → World → Prop) (E : Nat → World → World → Prop) (ops : Array Oper) (T : (Nat → Value) → Act) (i : Nat) (o : Oper) : Prop :=
  ∀ x w, (noF.contains i = false → F w) → Reg.Each (fun j => W j (Reg.shown A j x) w) (uses.getD i []) →
    ∀ K : Act → World → Prop, (∀ v w', (loud.contains i = true → killF.contains i = false → noF.contains i = false → F w') → (if loud.contains i then E i w w' else w' = w) → (∀ c, Reg.known vals i = some c → v = c) → (ws.contains i = true → W i (Reg.shown A i (fun k => if k = i then v else x k)) w') → K ((T x).put o.dst v) w') →
      (Region.wanted o (yielded ops (T x).tmps) = true → Oper.wp P o (T x) w K (fun _ _ _ => False)) ∧
      (Region.wanted o (yielded ops (T x).tmps) = false → (if loud.contains i then E i w w else True) ∧ (∀ c, Reg.known vals i = some c → undef = c) ∧ (ws.contains i = true → W i (Reg.shown A i (fun k => if k = i then undef else x k)) w))

/-- A region that draws its order. 'vals': the values of those operations whose values are known. W tells of those in ws what is known of their values, and of the world behind them; F of the world throughout. Those in 'loud' may change the world, as E says; all others leave it. kill i: of which operations what W tells may no longer hold behind i. uses i: of which operations what W tells is used at i; fin: at the end. -/
theorem wp_region_posts {id : Nat} {a : Act} {w : World} (A : List (List Nat)) (loud ws : List Nat) (kill uses : List (List Nat)) (fin killF noF ini : List Nat) (vals : List (Option Value)) (T : (Nat → Value) → Act) (F : World → Prop) (W : Nat → (Nat → Value) → World → Prop) (E : Nat → World → World → Prop)
    (hm : P.follows .mixedOrders = true) (hok : Reg.ok ops A = true) (huse : Reg.usesOk ops A ws kill uses loud fin killF noF ini = true)
    (hT : ∀ x, Reg.fillV ops.toList vals 0 x a = T x)
    (hF : F w.drew) (hini : Reg.Each (fun j => ∀ x, W j x w.drew) ini)
    (hrun : ∀ i o, ops[i]? = some o → Reg.Ob P A loud ws uses killF noF vals F W E ops T i o)
    (hpres : ∀ i ∈ loud, ∀ j ∈ ws, (j != i && !(A.getD j []).contains i && !(kill.getD i []).contains j) = true → ∀ x w w', (noF.contains i = false → F w) → E i w w' → W j x w → W j x w')
    (hend : ∀ x w, (killF = [] → F w) → Reg.Each (fun j => W j (Reg.shown A j x) w) fin → Q .normal (T x) w) :
    (Code.region id ops true).wp P Q a w := by
  refine wp_region_any hm ?_
  simp only [Reg.usesOk, Bool.and_eq_true, List.all_eq_true, List.mem_range] at huse
  obtain ⟨⟨⟨⟨hui, huF⟩, hu1⟩, hu2⟩, hkill⟩ := huse
  let I : (Nat → Bool) → Act → World → Prop := fun L a' w' => ((∀ k ∈ killF, L k = false) → F w') ∧ ∃ x, (∀ j c, Reg.known vals j = some c → x j = c) ∧ a' = Reg.part ops L x (List.range ops.size) a ∧ (∀ j, (j < ops.size ∧ L j = true) ∨ ini.contains j = true → ws.contains j = true → (∀ k, k < ops.size → (kill.getD k []).contains j = true → L k = false) → W j (Reg.shown A j x) w')
  refine Reg.wpAny_inv A hok I ?_ ?_ ops.size (Array.replicate ops.size false) a w.drew (by simp) (by simp) ?_ ?_
  · rintro L a' w' i o ho hLi hLA hclosed ⟨hF0, x, hN, rfl, hW⟩
    have hoka := Reg.ok_at hok ho
    simp only [Reg.okAt, Bool.and_eq_true, List.all_eq_true, List.mem_range] at hoka
    obtain ⟨⟨⟨ho1, ho2⟩, ho3⟩, ho4⟩ := hoka
    have his : i < ops.size := (Array.getElem?_eq_some_iff.1 ho).1
    have hdst : (ops[i]?).bind (·.dst) = o.dst := by rw [ho]; rfl
    have hF' : noF.contains i = false → F w' := fun hno => hF0 (fun k hk => by
      have hu := huF i his
      rw [hno] at hu
      simp only [Bool.false_eq_true, if_false, List.all_eq_true, Bool.or_eq_true, beq_iff_eq, Bool.and_eq_true, decide_eq_true_eq] at hu
      rcases hu k hk with h | ⟨h1, h2⟩
      · subst h; exact hLi
      · cases hLk : L k with
        | false => rfl
        | true =>
          have := hclosed k h1 hLk i (by simpa using h2)
          rw [hLi] at this
          cases this)
    have hAlt : ∀ j ∈ A.getD i [], j < ops.size := by
      intro j hj
      obtain ⟨k, hk, hkj⟩ := List.any_eq_true.1 (ho2 j hj)
      have : ∀ n i, i < n → ∀ o, ops[i]? = some o → ∀ j ∈ A.getD i [], j < i := by
        intro n
        induction n with
        | zero => intro i h; omega
        | succ n ih =>
          intro i hi o ho j hj
          have hoka := Reg.ok_at hok ho
          simp only [Reg.okAt, Bool.and_eq_true, List.all_eq_true] at hoka
          obtain ⟨k, hk, hkj⟩ := List.any_eq_true.1 (hoka.1.1.2 j hj)
          have hki := hoka.1.1.1 k hk
          simp only [decide_eq_true_eq] at hki
          simp only [Bool.or_eq_true, beq_iff_eq] at hkj
          rcases hkj with rfl | hkj
          · exact hki
          · have hk' : k < ops.size := by have := (Array.getElem?_eq_some_iff.1 ho).1; omega
            have := ih k (by omega) ops[k] (by simp [hk']) j (by simpa using hkj)
            omega
      have := this (i + 1) i (by omega) o ho j hj
      omega
    -- the slots that the operation looks at are as if all were put
    have hlook : ∀ t ∈ o.looksAt ops, (Reg.part ops L x (List.range ops.size) a).tmps[t]? = (Reg.fill ops x a).tmps[t]? := by
      intro t ht
      refine Reg.part_get L (fun _ => true) x t _ a a rfl rfl (fun j hj hd => ⟨?_, rfl⟩)
      have h3 := ho3 j (List.mem_range.1 hj)
      rw [hd] at h3
      simp only [Bool.and_eq_true, Bool.or_eq_true, Bool.not_eq_true', List.contains_eq_mem, decide_eq_true_eq, decide_eq_false_iff_not] at h3
      rcases h3.1 with h | h
      · exact absurd ht h
      · exact hLA j h
    have hev : ∀ y ∈ o.op.operands, (Reg.fill ops x a).eval y = (Reg.part ops L x (List.range ops.size) a).eval y := by
      intro y hy
      cases y with
      | tmp t =>
        have := hlook t (by
          unfold Oper.looksAt
          exact List.mem_append_left _ (List.mem_filterMap.2 ⟨.tmp t, by simpa using hy, rfl⟩))
        simp [Act.eval, this]
      | _ => rfl
    have hwant : Region.wanted o (yielded ops (Reg.fill ops x a).tmps) = Region.wanted o (yielded ops (Reg.part ops L x (List.range ops.size) a).tmps) := by
      unfold Region.wanted
      cases hg : o.guard with
      | none => rfl
      | some gw =>
        obtain ⟨g, want⟩ := gw
        have : yielded ops (Reg.fill ops x a).tmps g = yielded ops (Reg.part ops L x (List.range ops.size) a).tmps g := by
          unfold yielded
          cases ht : (ops[g]?).bind (·.dst) with
          | none => rfl
          | some t =>
            have := hlook t (by
              unfold Oper.looksAt
              exact List.mem_append_right _ (by simp [hg, ht]))
            simp [this]
        simp only [this]
    have hsz : (Reg.fill ops x a).tmps.size = (Reg.part ops L x (List.range ops.size) a).tmps.size := by
      rw [(Reg.part_same L x _ a a).1]
      exact (Reg.part_same (fun _ => true) x _ a a).1
    -- the value is put: what is known then
    have hafter : ∀ v w'', (loud.contains i = true → killF.contains i = false → noF.contains i = false → F w'') → (if loud.contains i then E i w' w'' else w'' = w') → (∀ c, Reg.known vals i = some c → v = c) → (ws.contains i = true → W i (Reg.shown A i (fun k => if k = i then v else x k)) w'') →
        I (fun j => L j || j == i) ((Reg.part ops L x (List.range ops.size) a).put o.dst v) w'' := by
      intro v w'' hF'' hE hVi hWi
      have hFn : (∀ k ∈ killF, (fun j => L j || j == i) k = false) → F w'' := by
        intro hk
        cases hl : loud.contains i with
        | false =>
          rw [hl] at hE
          simp only [Bool.false_eq_true, if_false] at hE
          rw [hE]
          exact hF0 (fun k hkk => by
            have := hk k hkk
            simp only [Bool.or_eq_false_iff] at this
            exact this.1)
        | true =>
          have hki : killF.contains i = false := by
            cases hc : killF.contains i with
            | false => rfl
            | true =>
              have := hk i (by simpa using hc)
              simp at this
          cases hno : noF.contains i with
          | false => exact hF'' hl hki hno
          | true =>
            exfalso
            have hu := huF i his
            rw [hno, hl, hki] at hu
            simp only [if_true, Bool.not_true, Bool.or_self, Bool.false_or, List.any_eq_true] at hu
            obtain ⟨k, hk1, hk2⟩ := hu
            have h1 := hk k hk1
            have h2 := hLA k (by simpa using hk2)
            simp [h2] at h1
      refine ⟨hFn, fun k => if k = i then v else x k, ?_, ?_, ?_⟩
      · intro j c hc
        by_cases hji : j = i
        · subst hji; simpa using hVi c hc
        · simpa [hji] using hN j c hc
      · rw [← hdst]
        refine (Reg.part_put L x i v hLi ?_ _ a List.nodup_range (List.mem_range.2 his)).symm
        intro j hji hdj
        rcases Nat.lt_or_ge j ops.size with hjs | hjs
        · have h3 := ho3 j hjs
          cases hdi : (ops[i]?).bind (·.dst) with
          | none => rfl
          | some t =>
            rw [hdj, hdi] at h3
            simp only [Bool.and_eq_true, Bool.or_eq_true, beq_iff_eq, hji, false_or] at h3
            rw [← hdst, hdi] at h3
            simp at h3
        · rw [← hdj]; simp [Array.getElem?_eq_none hjs]
      · intro j hj hjw hk
        by_cases hji : j = i
        · subst hji; exact hWi hjw
        · have hj' : (j < ops.size ∧ L j = true) ∨ ini.contains j = true := by
            have : (j == i) = false := by simpa using hji
            rcases hj with ⟨h1, h2⟩ | h
            · exact .inl ⟨h1, by simpa [this] using h2⟩
            · exact .inr h
          have hnot : (A.getD j []).contains i = false := by
            cases hc : (A.getD j []).contains i with
            | false => rfl
            | true =>
              rcases hj' with ⟨hj1, hLj'⟩ | h
              · have := hclosed j hj1 hLj' i (by simpa using hc)
                rw [hLi] at this
                cases this
              · have := (hui j (by simpa using h)).2
                rw [List.isEmpty_iff] at this
                rw [this] at hc
                simp at hc
          rw [Reg.shown_upd A i j x v hji hnot]
          have h0 := hW j hj' hjw (fun k hkk hc => by
            have := hk k hkk hc
            simp only [Bool.or_eq_false_iff] at this
            exact this.1)
          have hki : (kill.getD i []).contains j = false := by
            cases hc : (kill.getD i []).contains j with
            | false => rfl
            | true =>
              have := hk i his hc
              simp at this
          cases hl : loud.contains i with
          | false => rw [hl] at hE; simp only [Bool.false_eq_true, if_false] at hE; rw [hE]; exact h0
          | true => rw [hl] at hE; simp only [if_true] at hE; exact hpres i (by simpa using hl) j (by simpa using hjw) (by rw [hnot, hki]; simpa using hji) _ w' w'' hF' hE h0
    have hTx : T x = Reg.fill ops x a := by rw [← hT x]; exact Reg.fillV_fill vals x a hN
    have hr := hrun i o ho x w' hF' (Reg.each_iff.2 fun j hj => by
      have h := hu1 i his j hj
      obtain ⟨⟨hj1, hj2⟩, hj3⟩ := h
      have hj1 : (j < ops.size ∧ L j = true) ∨ ini.contains j = true := by
        rw [Bool.or_eq_true] at hj1
        rcases hj1 with h | h
        · have h : j ∈ A.getD i [] := by simpa using h
          exact .inl ⟨hAlt j h, hLA j h⟩
        · exact .inr h
      refine hW j hj1 hj2 (fun k hk hc => ?_)
      have hj4 := hj3 k hk
      simp only [Bool.or_eq_true, Bool.not_eq_true'] at hj4
      rcases hj4 with (h | h) | h
      · rw [hc] at h; cases h
      · rw [beq_iff_eq] at h; subst h; exact hLi
      · cases hLk : L k with
        | false => rfl
        | true =>
          have := hclosed k hk hLk i (by simpa using h)
          rw [hLi] at this
          cases this)
    rw [hTx] at hr
    unfold wpOp
    simp only [ho]
    rw [hwant] at hr
    split
    · rename_i hw
      refine .inl (Oper.wp_mono ?_ (Reg.wp_swap (a := Reg.fill ops x a) (R := fun v w'' => (loud.contains i = true → killF.contains i = false → noF.contains i = false → F w'') ∧ (if loud.contains i then E i w' w'' else w'' = w') ∧ (∀ c, Reg.known vals i = some c → v = c) ∧ (ws.contains i = true → W i (Reg.shown A i (fun k => if k = i then v else x k)) w'')) (by simpa using ho4) hsz hev ((hr _ (fun v w'' h1 h2 h3 h4 => ⟨v, rfl, h1, h2, h3, h4⟩)).1 hw)))
      rintro b w'' ⟨v, rfl, h1, h2, h3, h4⟩
      exact hafter v w'' h1 h2 h3 h4
    · rename_i hw
      obtain ⟨h2, h3, h4⟩ := (hr (fun _ _ => True) (fun _ _ _ _ _ _ => trivial)).2 (by simpa using hw)
      refine hafter undef w' (fun _ _ hno => hF' hno) ?_ h3 h4
      cases hl : loud.contains i with
      | false => simp
      | true => rw [hl] at h2; simpa using h2
  · rintro L a' w' hall ⟨hF', x, hN, rfl, hW⟩
    have e : Reg.part ops L x (List.range ops.size) a = Reg.fill ops x a := Reg.part_list _ _ _ _ _ (fun j hj => hall j (List.mem_range.1 hj))
    rw [e]
    have hTx : T x = Reg.fill ops x a := by rw [← hT x]; exact Reg.fillV_fill vals x a hN
    rw [← hTx]
    refine hend x w' (fun h => hF' (by rw [h]; simp)) (Reg.each_iff.2 fun j hj => ?_)
    have h := hu2 j hj
    obtain ⟨⟨hj1, hj2⟩, hj3⟩ := h
    have hj1 : (j < ops.size ∧ L j = true) ∨ ini.contains j = true := by
      rw [Bool.or_eq_true] at hj1
      rcases hj1 with h | h
      · have h : j < ops.size := by simpa using h
        exact .inl ⟨h, hall j h⟩
      · exact .inr h
    exact hW j hj1 hj2 (fun k hk hc => by
      have := hj3 k hk
      rw [hc] at this
      cases this)
  · intro j hj h
    simp [hj] at h
  · refine ⟨fun _ => hF, fun j => (Reg.known vals j).getD undef, fun j c hc => by simp [hc], ?_, ?_⟩
    · have : ∀ (js : List Nat), (∀ j ∈ js, j < ops.size) → Reg.part ops (fun j => (Array.replicate ops.size false).getD j true) (fun j => (Reg.known vals j).getD undef) js a = a := by
        intro js
        induction js with
        | nil => intro _; rfl
        | cons j js ih =>
          intro h
          have hj := h j (List.mem_cons_self ..)
          have := ih (fun k hk => h k (List.mem_cons_of_mem _ hk))
          simp only [Reg.part, List.foldl_cons] at this ⊢
          have e : (Array.replicate ops.size false).getD j true = false := by simp [hj]
          rw [e]
          simpa using this
      exact (this _ (fun j hj => List.mem_range.1 hj)).symm
    · intro j hj hjw hk
      rcases hj with ⟨hj, h⟩ | h
      · simp [hj] at h
      · exact Reg.each_iff.1 hini j (by simpa using h) _

/-- What is to be shown of each operation, one behind the other. -/
def Reg.EachOp (p : Nat → Oper → Prop) : List Oper → Nat → Prop
  | [], _ => True
  | o :: os, k => p k o ∧ Reg.EachOp p os (k + 1)
theorem Reg.eachOp {p : Nat → Oper → Prop} : ∀ {os : List Oper} {k : Nat}, Reg.EachOp p os k → ∀ i o, os[i]? = some o → p (k + i) o
  | [], _, _, i, o, h => by simp at h
  | o' :: os, k, h, 0, o, ho => by simp at ho; subst ho; exact h.1
  | o' :: os, k, h, i + 1, o, ho => by
    have := Reg.eachOp h.2 i o (by simpa using ho)
    rwa [show k + (i + 1) = k + 1 + i by omega]
theorem Reg.all_ops {p : Nat → Oper → Prop} (h : Reg.EachOp p ops.toList 0) : ∀ i o, ops[i]? = some o → p i o := fun i o ho => by
  have := Reg.eachOp h i o (by simpa using ho)
  rwa [Nat.zero_add] at this

section
variable {A : List (List Nat)} {loud ws : List Nat} {uses : List (List Nat)} {killF noF : List Nat} {vals : List (Option Value)} {F : World → Prop} {W : Nat → (Nat → Value) → World → Prop} {E : Nat → World → World → Prop} {T : (Nat → Value) → Act} {i : Nat} {o : Oper}
/-- An operation that yields a value, whatever the world that meets F. -/
theorem Reg.ob_pure {c : Value} (hg : ∀ x, Region.wanted o (yielded ops (T x).tmps) = true) (hv : Reg.known vals i = some c) (hl : loud.contains i = false) (hw : ws.contains i = false) (hno : noF.contains i = false)
    (h : ∀ x w, F w → (execOp (T x).eval o).run P w = .ok (.value c) w) : Reg.Ob P A loud ws uses killF noF vals F W E ops T i o := by
  intro x w hF _ K hK
  refine ⟨fun _ => ?_, fun hwant => by rw [hg] at hwant; cases hwant⟩
  unfold Oper.wp
  rw [h x w (hF hno)]
  simp only [Oper.upon]
  refine hK c w (fun _ _ hno => hF hno) ?_ ?_ ?_
  · rw [hl]; simp
  · intro c' hc'; rw [hv] at hc'; injection hc'
  · intro h; rw [hw] at h; cases h
/-- An operation that yields a value, whatever the world. -/
theorem Reg.ob_bare {c : Value} (hg : ∀ x, Region.wanted o (yielded ops (T x).tmps) = true) (hv : Reg.known vals i = some c) (hl : loud.contains i = false) (hw : ws.contains i = false)
    (h : ∀ x w, (execOp (T x).eval o).run P w = .ok (.value c) w) : Reg.Ob P A loud ws uses killF noF vals F W E ops T i o := by
  intro x w hF _ K hK
  refine ⟨fun _ => ?_, fun hwant => by rw [hg] at hwant; cases hwant⟩
  unfold Oper.wp
  rw [h x w]
  simp only [Oper.upon]
  refine hK c w (fun h => by rw [hl] at h; cases h) ?_ ?_ ?_
  · rw [hl]; simp
  · intro c' hc'; rw [hv] at hc'; injection hc'
  · intro h; rw [hw] at h; cases h
/-- An operation that is met by a contract, or otherwise: its value is known. -/
theorem Reg.ob_known {c : Value} (hg : ∀ x, Region.wanted o (yielded ops (T x).tmps) = true) (hv : Reg.known vals i = some c) (hw : ws.contains i = false)
    (h : ∀ x w, (noF.contains i = false → F w) → Reg.Each (fun j => W j (Reg.shown A j x) w) (uses.getD i []) → ∀ K : Act → World → Prop, (∀ w', (loud.contains i = true → killF.contains i = false → noF.contains i = false → F w') → (if loud.contains i then E i w w' else w' = w) → K ((T x).put o.dst c) w') → Oper.wp P o (T x) w K (fun _ _ _ => False)) : Reg.Ob P A loud ws uses killF noF vals F W E ops T i o := by
  intro x w hF hU K hK
  refine ⟨fun _ => h x w hF hU K (fun w' h1 h2 => hK c w' h1 h2 (fun c' hc' => by rw [hv] at hc'; injection hc') (fun h => by rw [hw] at h; cases h)), fun hwant => by rw [hg] at hwant; cases hwant⟩
/-- An operation whose guard says no. -/
theorem Reg.ob_skip (hg : ∀ x, Region.wanted o (yielded ops (T x).tmps) = false) (hv : Reg.known vals i = some undef) (hl : loud.contains i = false) (hw : ws.contains i = false) : Reg.Ob P A loud ws uses killF noF vals F W E ops T i o := by
  intro x w hF hU K hK
  refine ⟨(fun hwant => by rw [hg] at hwant; cases hwant), fun _ => ⟨by rw [hl]; simp, (fun c' hc' => by rw [hv] at hc'; injection hc'), (fun h => by rw [hw] at h; cases h)⟩⟩
/-- An operation of which W tells. -/
theorem Reg.ob_some (hg : ∀ x, Region.wanted o (yielded ops (T x).tmps) = true) (hv : Reg.known vals i = none)
    (h : ∀ x w, (noF.contains i = false → F w) → Reg.Each (fun j => W j (Reg.shown A j x) w) (uses.getD i []) → ∀ K : Act → World → Prop, (∀ v w', (loud.contains i = true → killF.contains i = false → noF.contains i = false → F w') → (if loud.contains i then E i w w' else w' = w) → W i (Reg.shown A i (fun k => if k = i then v else x k)) w' → K ((T x).put o.dst v) w') → Oper.wp P o (T x) w K (fun _ _ _ => False)) : Reg.Ob P A loud ws uses killF noF vals F W E ops T i o := by
  intro x w hF hU K hK
  refine ⟨fun _ => h x w hF hU K (fun v w' h1 h2 h3 => hK v w' h1 h2 (fun c' hc' => by rw [hv] at hc'; cases hc') (fun _ => h3)), fun hwant => by rw [hg] at hwant; cases hwant⟩
end
end
end Go.Proofs.Ytglgmhdajmncjaa
