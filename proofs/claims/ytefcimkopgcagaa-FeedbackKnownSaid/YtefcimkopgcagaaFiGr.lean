/- Merged of StrW FdH FdIa FdI FdJ. Conditions: as each says. -/
import Derived.Test.YtefcimkopgcagaaBase
import Derived.Deep.MidRow
import Derived.Test.YtefcimkopgcagaaFdGr
import Derived.Test.YtefcimkopgcagaaRcFk
import Derived.Test.YtefcimkopgcagaaFcD
import Derived.Test.YtefcimkopgcagaaFbO
/- Rows of structs that are owned: an element is written anew, or read whole; many cells at once. Conditions: as each says. -/
set_option linter.unusedVariables false
namespace Go.Proofs.Ytefcimkopgcagaa
open Go Go.RowKit

/-- Cells that are written from a place on. -/
def setA (cs : Array Value) : Nat → List Value → Array Value
  | _, [] => cs
  | o, v :: r => setA (cs.setIfInBounds o v) (o + 1) r
theorem setA_size : ∀ (vs : List Value) (cs : Array Value) (o : Nat), (setA cs o vs).size = cs.size
  | [], _, _ => rfl
  | v :: r, cs, o => by rw [setA, setA_size r]; simp
theorem setA_get : ∀ (vs : List Value) (cs : Array Value) (o k : Nat), o + vs.length ≤ cs.size → (setA cs o vs)[k]? = if o ≤ k ∧ k < o + vs.length then vs[k - o]? else cs[k]?
  | [], cs, o, k, _ => by
    rw [setA, if_neg (by intro h; have := h.1; have := h.2; simp at *; omega)]
  | v :: r, cs, o, k, h => by
    rw [List.length_cons] at h
    rw [setA, setA_get r _ _ k (by simp; omega), List.length_cons]
    by_cases h1 : o + 1 ≤ k ∧ k < o + 1 + r.length
    · rw [if_pos h1, if_pos (by omega), show k - o = (k - (o + 1)) + 1 by omega, List.getElem?_cons_succ]
    · rw [if_neg h1]
      by_cases h2 : k = o
      · subst h2
        rw [if_pos (by omega), Nat.sub_self, List.getElem?_cons_zero, Array.getElem?_setIfInBounds_self_of_lt (by omega)]
      · rw [if_neg (by omega), Array.getElem?_setIfInBounds_ne (fun e => h2 e.symm)]
theorem Is.many {t : TypeId} : ∀ (vs : List Value) (o : Nat) (w : World) (b : Nat) (cs : Array Value), Is w b t cs → Is (w.setCells b o vs) b t (setA cs o vs)
  | [], _, _, _, _, h => h
  | v :: r, o, w, b, cs, h => by
    rw [World.setCells, setA]
    exact Is.many r (o + 1) _ b _ (h.put o v)
theorem Only.many {S : Nat → Prop} {w : World} {b : Nat} : ∀ (vs : List Value) (o : Nat) (w1 : World), Only S w w1 → (b < w.heap.size → S b) → Only S w (w1.setCells b o vs)
  | [], _, _, h, _ => h
  | v :: r, o, w1, h, hb => by
    rw [World.setCells]
    exact Only.many r (o + 1) _ (h.set (p := ⟨b, o, none⟩) hb v) hb
theorem flat_set {sz : Nat} : ∀ (xss : List (List Value)) (i : Nat) (cs : List Value), (∀ xs ∈ xss, xs.length = sz) → cs.length = sz → i < xss.length → ∀ k, (xss.set i cs).flatten[k]? = if i * sz ≤ k ∧ k < i * sz + sz then cs[k - i * sz]? else xss.flatten[k]?
  | [], i, cs, _, _, hi, _ => by simp at hi
  | xs :: xss, 0, cs, h, hc, _, k => by
    have e := h xs (by simp)
    rw [List.set_cons_zero, List.flatten_cons, List.flatten_cons, Nat.zero_mul, Nat.zero_add]
    by_cases hk : k < sz
    · rw [if_pos ⟨Nat.zero_le _, hk⟩, List.getElem?_append_left (by omega), Nat.sub_zero]
    · rw [if_neg (by omega), List.getElem?_append_right (by omega), List.getElem?_append_right (by omega), hc, e]
  | xs :: xss, i + 1, cs, h, hc, hi, k => by
    have e := h xs (by simp)
    have hi' : i < xss.length := by simpa using hi
    have ih := flat_set xss i cs (fun y hy => h y (by simp [hy])) hc hi' (k - sz)
    rw [List.set_cons_succ, List.flatten_cons, List.flatten_cons]
    rw [Nat.succ_mul]
    by_cases hk : k < sz
    · rw [if_neg (by omega), List.getElem?_append_left (by omega), List.getElem?_append_left (by omega)]
    · rw [List.getElem?_append_right (by omega), List.getElem?_append_right (by omega), e, ih]
      by_cases hr : i * sz ≤ k - sz ∧ k - sz < i * sz + sz
      · rw [if_pos hr, if_pos (by omega)]
        congr 1
        omega
      · rw [if_neg hr, if_neg (by omega)]
section
variable {w w1 : World} {B : Nat} {T : TypeId} {sz : Nat} {v : Value} {xss : List (List Value)}
/-- Where a row lies. -/
theorem OwnS.place (h : OwnS w B T sz v xss) (hp : 0 < xss.length) : ∃ g c, v = .slice (some ⟨g, 0, none⟩) xss.length c ∧ B ≤ g ∧ xss.length ≤ c ∧ c ≤ maxLen ∧ ∃ cur, Is w g T cur ∧ cur.size = c * sz ∧ cur.toList.take (xss.length * sz) = xss.flatten := by
  rcases h.1.2 with ⟨_, h0⟩ | ⟨g, cap, cur, rfl, hb, hg, hc, hm, hcs, ht⟩
  · omega
  · exact ⟨g, cap, rfl, hb, hc, hm, cur, hg, hcs, ht⟩
theorem mul_in {i n sz : Nat} (h : i < n) : i * sz + sz ≤ n * sz := by
  have : (i + 1) * sz ≤ n * sz := Nat.mul_le_mul_right _ h
  rwa [Nat.succ_mul] at this
/-- An element is written anew. -/
theorem OwnS.write {g i : Nat} {cs : List Value} (h : OwnS w B T sz v xss) (hg : v.ownBlock = some g) (hi : i < xss.length) (hc : cs.length = sz) : OwnS (w.setCells g (i * sz) cs) B T sz v (xss.set i cs) ∧ Only (fun k => k = g) w (w.setCells g (i * sz) cs) := by
  obtain ⟨g', c, rfl, hb, hl, hm, cur, hI, hs, ht⟩ := h.place (by omega)
  obtain rfl : g' = g := by simpa [Value.ownBlock] using hg
  have hin := mul_in (sz := sz) hi
  have hcap : xss.length * sz ≤ c * sz := Nat.mul_le_mul_right _ hl
  have hfl := flat_length xss h.2
  refine ⟨⟨⟨?_, .inr ⟨g', c, setA cur (i * sz) cs, by rw [List.length_set], hb, Is.many cs _ _ _ _ hI, by rw [List.length_set]; exact hl, hm, by rw [setA_size]; exact hs, ?_⟩⟩, ?_⟩, Only.many cs _ _ (Only.refl _ w) (fun _ => rfl)⟩
  · rw [flat_length _ (fun y hy => ?_)]
    rcases List.mem_or_eq_of_mem_set hy with hy | rfl
    · exact h.2 y hy
    · exact hc
  · rw [List.length_set]
    apply List.ext_getElem?
    intro k
    rw [List.getElem?_take, flat_set xss i cs h.2 hc hi k, Array.getElem?_toList, setA_get cs cur _ k (by omega), hc]
    by_cases hk : k < xss.length * sz
    · rw [if_pos hk, ← ht, List.getElem?_take, if_pos hk]
      simp
    · rw [if_neg hk, if_neg (by omega), List.getElem?_eq_none (by omega)]
  · intro y hy
    rcases List.mem_or_eq_of_mem_set hy with hy | rfl
    · exact h.2 y hy
    · exact hc
/-- It may be written. -/
theorem OwnS.there {g i : Nat} (h : OwnS w B T sz v xss) (hg : v.ownBlock = some g) (hi : i < xss.length) : w.there g (i * sz) sz := by
  obtain ⟨g', c, rfl, hb, hl, hm, cur, hI, hs, ht⟩ := h.place (by omega)
  obtain rfl : g' = g := by simpa [Value.ownBlock] using hg
  have hin := mul_in (sz := sz) hi
  have hcap : xss.length * sz ≤ c * sz := Nat.mul_le_mul_right _ hl
  intro j hj
  refine ⟨?_, hI.free _⟩
  rw [hI.cell, Array.getElem?_eq_getElem (by omega)]
  rfl
/-- It is read whole. -/
theorem OwnS.range {g i : Nat} {xs : List Value} (h : OwnS w B T sz v xss) (hg : v.ownBlock = some g) (hi : xss[i]? = some xs) : w.rangeAt g (i * sz) xs := by
  have hil : i < xss.length := (List.getElem?_eq_some_iff.1 hi).1
  have hx := h.2 xs (List.mem_of_getElem? hi)
  obtain ⟨g', c', e, -, -, -, hc⟩ := h.at_ (by omega)
  have e2 := congrArg Value.ownBlock e
  rw [hg] at e2
  simp [Value.ownBlock] at e2
  subst e2
  intro j u hj
  have hjl : j < xs.length := (List.getElem?_eq_some_iff.1 hj).1
  rw [hc i j xs hi (by omega)]
  exact hj
end
end Go.Proofs.Ytefcimkopgcagaa

/- easellaw07.spoil: a message's rows are written over. Conditions: as it says. -/
set_option linter.unusedVariables false
set_option linter.unusedSimpArgs false
namespace Go.Proofs.Ytefcimkopgcagaa
open Go.RowKit

theorem keep_row {w w1 : World} {B B' sz sz' n : Nat} {T U : TypeId} {v u : Value} {xs : List Value} {yss : List (List Value)} (h : OwnS w B' U sz' u yss) (k : w.ownsRow B T sz v n xs) (hne : T ≠ U) (ho : Only (fun j => v.ownBlock = some j) w w1) : OwnS w1 B' U sz' u yss :=
  OwnS.only h ho (fun j hj e => owned_apart k h.1 hne j e hj)
/-- Amid spoil: the message's box, its rows of so many elements. -/
structure SpM (B mb P O S : Nat) (cs : Array Value) (vp vo vs : Value) (w0 wx : World) : Prop where
  i : Is wx mb 27 cs
  p : ∃ xss, xss.length = P ∧ OwnS wx B 82 2 vp xss
  o : ∃ xss, xss.length = O ∧ OwnS wx B 85 2 vo xss
  s : ∃ xss, xss.length = S ∧ OwnS wx B 22 1 vs xss
  pure : Only (fun k => B ≤ k) w0 wx
theorem SpM.putP {B mb P O S : Nat} {cs : Array Value} {vp vo vs : Value} {w0 wx : World} (h : SpM B mb P O S cs vp vo vs w0 wx) {g i : Nat} {xs : List Value} (hg : vp.ownBlock = some g) (hi : i < P) (hx : xs.length = 2) : SpM B mb P O S cs vp vo vs w0 (wx.setCells g (i * 2) xs) := by
  obtain ⟨pss, hp, hP⟩ := h.p
  obtain ⟨oss, hol, hO⟩ := h.o
  obtain ⟨sss, hsl, hS⟩ := h.s
  obtain ⟨h1, h2⟩ := hP.write (i := i) hg (by omega) hx
  have ho : Only (fun k => vp.ownBlock = some k) wx (wx.setCells g (i * 2) xs) := h2.mono (fun k _ e => e ▸ hg)
  exact ⟨h.i.only ho (fun e => owned_off hP.1 h.i (by decide) e), ⟨_, by rw [List.length_set]; exact hp, h1⟩, ⟨oss, hol, keep_row hO hP.1 (by decide) ho⟩, ⟨sss, hsl, keep_row hS hP.1 (by decide) ho⟩, h.pure.trans ho (fun k hk e => (hP.lt k e).1)⟩
theorem SpM.putO {B mb P O S : Nat} {cs : Array Value} {vp vo vs : Value} {w0 wx : World} (h : SpM B mb P O S cs vp vo vs w0 wx) {g i : Nat} {xs : List Value} (hg : vo.ownBlock = some g) (hi : i < O) (hx : xs.length = 2) : SpM B mb P O S cs vp vo vs w0 (wx.setCells g (i * 2) xs) := by
  obtain ⟨pss, hp, hP⟩ := h.p
  obtain ⟨oss, hol, hO⟩ := h.o
  obtain ⟨sss, hsl, hS⟩ := h.s
  obtain ⟨h1, h2⟩ := hO.write (i := i) hg (by omega) hx
  have ho : Only (fun k => vo.ownBlock = some k) wx (wx.setCells g (i * 2) xs) := h2.mono (fun k _ e => e ▸ hg)
  exact ⟨h.i.only ho (fun e => owned_off hO.1 h.i (by decide) e), ⟨pss, hp, keep_row hP hO.1 (by decide) ho⟩, ⟨_, by rw [List.length_set]; exact hol, h1⟩, ⟨sss, hsl, keep_row hS hO.1 (by decide) ho⟩, h.pure.trans ho (fun k hk e => (hO.lt k e).1)⟩
theorem SpM.putS {B mb P O S : Nat} {cs : Array Value} {vp vo vs : Value} {w0 wx : World} (h : SpM B mb P O S cs vp vo vs w0 wx) {g i : Nat} {x : Value} (hg : vs.ownBlock = some g) (hi : i < S) : SpM B mb P O S cs vp vo vs w0 (wx.setCell ⟨g, i, none⟩ x) := by
  obtain ⟨pss, hp, hP⟩ := h.p
  obtain ⟨oss, hol, hO⟩ := h.o
  obtain ⟨sss, hsl, hS⟩ := h.s
  obtain ⟨h1, h2⟩ := hS.write (i := i) (cs := [x]) hg (by omega) rfl
  rw [Nat.mul_one] at h1 h2
  have h1 : OwnS (wx.setCell ⟨g, i, none⟩ x) B 22 1 vs (sss.set i [x]) := h1
  have h2 : Only (fun k => k = g) wx (wx.setCell ⟨g, i, none⟩ x) := h2
  have ho : Only (fun k => vs.ownBlock = some k) wx (wx.setCell ⟨g, i, none⟩ x) := h2.mono (fun k _ e => e ▸ hg)
  exact ⟨h.i.only ho (fun e => owned_off hS.1 h.i (by decide) e), ⟨pss, hp, keep_row hP hS.1 (by decide) ho⟩, ⟨oss, hol, keep_row hO hS.1 (by decide) ho⟩, ⟨_, by rw [List.length_set]; exact hsl, h1⟩, h.pure.trans ho (fun k hk e => (hS.lt k e).1)⟩
theorem Try.sizePr2 : (Try.prog.info? 82).map (·.size) = some 2 := by kernel_rfl
theorem Try.sizeOd2 : (Try.prog.info? 85).map (·.size) = some 2 := by kernel_rfl
set_option maxRecDepth 100000 in
set_option maxHeartbeats 4000000 in
theorem fspoil_is (m : Ms) (vp vo vs : Value) (B : Nat) (w : World) (h : OwnM B m vp vo vs w) (hl : m.pairs.length ≤ 1000000 ∧ m.orders.length ≤ 1000000 ∧ m.srcs.length ≤ 1000000) :
    Calls Try.prog 24 #[.agg (m.cls vp vo vs)] w fun e w' => e = .returned (.tuple #[]) ∧ Only (fun k => B ≤ k) w w' := by
  obtain ⟨Pa, pc, rfl, -⟩ := OwnS.slice h.1
  obtain ⟨Oa, oc, rfl, -⟩ := OwnS.slice h.2.1
  obtain ⟨Sa, sc, rfl, -⟩ := OwnS.slice h.2.2
  rw [List.length_map] at *
  obtain ⟨P, hP⟩ : ∃ k, m.pairs.length = k := ⟨_, rfl⟩
  obtain ⟨O, hO⟩ : ∃ k, m.orders.length = k := ⟨_, rfl⟩
  obtain ⟨S, hS⟩ : ∃ k, m.srcs.length = k := ⟨_, rfl⟩
  rw [List.length_map, List.length_map] at *
  rw [hP, hO, hS] at hl h ⊢
  obtain ⟨cs, hcs⟩ : ∃ a, m.cls (.slice Pa P pc) (.slice Oa O oc) (.slice Sa S sc) = a := ⟨_, rfl⟩
  have HCS := Lib.hid (show cs[3]? = some (.slice Pa P pc) ∧ cs[4]? = some (.slice Oa O oc) ∧ cs[7]? = some (.slice Sa S sc) from by rw [← hcs]; exact ⟨rfl, rfl, rfl⟩)
  have H0 := Lib.hid (show ∀ wx mb, Only (fun _ => False) w wx → Is wx mb 27 cs → SpM B mb P O S cs (.slice Pa P pc) (.slice Oa O oc) (.slice Sa S sc) w wx from fun wx mb ho hi =>
    ⟨hi, ⟨m.pairs.map Pr.lst, by rw [List.length_map, hP], OwnS.only h.1 ho (by simp)⟩, ⟨m.orders.map Od.lst, by rw [List.length_map, hO], OwnS.only h.2.1 ho (by simp)⟩, ⟨m.srcs.map fun x => [Value.int .u32 (x : Nat)], by rw [List.length_map, hS], OwnS.only h.2.2 ho (by simp)⟩, ho.mono (fun _ _ e => e.elim)⟩)
  rw [hcs]
  obtain ⟨hl1, hl2, hl3⟩ := hl
  clear h hP hO hS hcs
  go_enter Try.func24, Try.ntmps24
  go_upto_region 1 with (fail)
  generalize hw1 : World.alloc w _ = w1
  have I0 := Lib.hid (show Is w1 w.heap.size 27 cs from by rw [← hw1]; exact Is.made w _ _)
  have P0 := Lib.hid (show Only (fun _ => False) w w1 from by rw [← hw1]; exact (Only.refl _ w).alloc _)
  obtain ⟨mb, hmb⟩ : ∃ k, w.heap.size = k := ⟨_, rfl⟩
  rw [hmb] at I0 ⊢
  have S0 := Lib.hid (H0.out w1 mb P0.out I0.out)
  clear hw1 hmb I0 P0 H0
  go_wp2
  go_loopw [2] (fun i wr => ∃ k : Nat, i = .int .i64 (k : Int) ∧ k ≤ P ∧ SpM B mb P O S cs (.slice Pa P pc) (.slice Oa O oc) (.slice Sa S sc) w wr) (fun i _ => P - (intOf i).toNat)
  case atStart => exact ⟨0, rfl, by omega, S0.out⟩
  case round =>
    obtain ⟨k, rfl, hk, hS⟩ := hrel
    have SJ := Lib.hid hS
    clear hS S0
    have c3 := (SJ.out.i.cell 3).trans HCS.out.1
    by_cases hkP : k < P
    · have hkI : (k : Int) < (P : Int) := by omega
      obtain ⟨pss, hpl, hpO⟩ := SJ.out.p
      obtain ⟨g, c, e, -⟩ := hpO.place (by omega)
      injection e with e1 e2 e3
      subst e1 e3
      have HT := Lib.hid (show wr.there g (k * 2) 2 from hpO.there rfl (by omega))
      clear hpl hpO e2
      go_wp2_with (refine wpList_store_mid rfl 82 _ _ rfl g (k * 2) #[.int .u16 7, .int .u16 0] rfl rfl HT.out Try.sizePr2 (by simp [Value.oneCell']) ?_)
      exact ⟨⟨k + 1, int_congr (by omega), by omega, SJ.out.putP rfl hkP rfl⟩, by simp [intOf]; omega⟩
    · have hkI : ¬ (k : Int) < (P : Int) := by omega
      clear hkP
      have S1 := Lib.hid (show SpM B mb P O S cs (.slice Pa P pc) (.slice Oa O oc) (.slice Sa S sc) w wr from SJ.out)
      clear SJ
      go_wp2
      clear hkI hk c3
      go_loopw [3] (fun i wr => ∃ k : Nat, i = .int .i64 (k : Int) ∧ k ≤ O ∧ SpM B mb P O S cs (.slice Pa P pc) (.slice Oa O oc) (.slice Sa S sc) w wr) (fun i _ => O - (intOf i).toNat)
      case atStart => exact ⟨0, rfl, by omega, S1.out⟩
      case round =>
        obtain ⟨k, rfl, hk, hS⟩ := hrel
        have SJ := Lib.hid hS
        clear hS S1
        have c3 := (SJ.out.i.cell 4).trans HCS.out.2.1
        by_cases hkP : k < O
        · have hkI : (k : Int) < (O : Int) := by omega
          obtain ⟨pss, hpl, hpO⟩ := SJ.out.o
          obtain ⟨g, c, e, -⟩ := hpO.place (by omega)
          injection e with e1 e2 e3
          subst e1 e3
          have HT := Lib.hid (show wr.there g (k * 2) 2 from hpO.there rfl (by omega))
          clear hpl hpO e2
          go_wp2_with (refine wpList_store_mid rfl 85 _ _ rfl g (k * 2) #[.int .u32 0, .int .u8 7] rfl rfl HT.out Try.sizeOd2 (by simp [Value.oneCell']) ?_)
          exact ⟨⟨k + 1, int_congr (by omega), by omega, SJ.out.putO rfl hkP rfl⟩, by simp [intOf]; omega⟩
        · have hkI : ¬ (k : Int) < (O : Int) := by omega
          have S1 := Lib.hid (show SpM B mb P O S cs (.slice Pa P pc) (.slice Oa O oc) (.slice Sa S sc) w wr from SJ.out)
          clear SJ hkP
          go_wp2
          clear hkI hk c3
          go_loopw [4] (fun i wr => ∃ k : Nat, i = .int .i64 (k : Int) ∧ k ≤ S ∧ SpM B mb P O S cs (.slice Pa P pc) (.slice Oa O oc) (.slice Sa S sc) w wr) (fun i _ => S - (intOf i).toNat)
          case atStart => exact ⟨0, rfl, by omega, S1.out⟩
          case round =>
            obtain ⟨k, rfl, hk, hS⟩ := hrel
            have SJ := Lib.hid hS
            clear hS S1
            have c3 := (SJ.out.i.cell 7).trans HCS.out.2.2
            by_cases hkP : k < S
            · have hkI : (k : Int) < (S : Int) := by omega
              obtain ⟨pss, hpl, hpO⟩ := SJ.out.s
              obtain ⟨g, c, e, -⟩ := hpO.place (by omega)
              injection e with e1 e2 e3
              subst e1 e3
              obtain ⟨hT1, hf⟩ := (show wr.there g (k * 1) 1 from hpO.there rfl (by omega)) 0 (by decide)
              rw [Nat.mul_one, Nat.add_zero] at hT1 hf
              obtain ⟨u, hc⟩ := Option.isSome_iff_exists.1 hT1
              clear hpl hpO e2 hT1
              go_wp2
              exact ⟨⟨k + 1, int_congr (by omega), by omega, SJ.out.putS rfl hkP⟩, by simp [intOf]; omega⟩
            · have hkI : ¬ (k : Int) < (S : Int) := by omega
              go_wp2
              exact bodyPost_end (v := .tuple #[]) (by simp [results, Try.results24]) rfl ⟨rfl, SJ.out.pure⟩
end Go.Proofs.Ytefcimkopgcagaa

/- One packet in a row. Conditions: as it says. -/
set_option linter.unusedVariables false
namespace Go.Proofs.Ytefcimkopgcagaa
open Go.RowKit

theorem rdk_1 {w : World} {g : Nat} {T : TypeId} {u : Value} {p : Pkt} (h : Is w g T #[.int .u8 (p.count : Nat), .int .u8 (p.kind : Nat), u, .int .u8 (p.pad : Nat)]) (hs : Src w u p.body) : RdK w (.slice (some ⟨g, 0, none⟩) 1 1) [p] := by
  refine ⟨_, 1, rfl, Nat.le_refl _, fun _ => ⟨g, 0, rfl, fun i q hq => ?_⟩⟩
  obtain _ | i := i
  · injection hq with hq
    subst hq
    exact ⟨u, ⟨h.cell 0, h.cell 1, h.cell 2, h.cell 3⟩, hs⟩
  · cases hq
end Go.Proofs.Ytefcimkopgcagaa

/- FeedbackReads' drawn regions. Conditions: as each says. -/
set_option linter.unusedVariables false
set_option linter.unusedSimpArgs false
namespace Go.Proofs.Ytefcimkopgcagaa
open Go.RowKit

def fr9_A : List (List Nat) := ([] :: [] :: [0, 1] :: [2, 0, 1] :: [3, 2, 0, 1] :: [4, 3, 2, 0, 1] :: [3, 2, 0, 1] :: [5, 6, 3, 4, 2, 0, 1] :: (7 :: 3 :: 5 :: 6 :: 4 :: 2 :: 0 :: 1 :: []) :: (3 :: 8 :: 2 :: 0 :: 1 :: 7 :: 5 :: 6 :: 4 :: []) :: [])
def fr9_kill : List (List Nat) := ([] :: [] :: [] :: [] :: [] :: [] :: [] :: [] :: [] :: [] :: [])
def fr9_uses : List (List Nat) := ([] :: [] :: [] :: [] :: [] :: [] :: [] :: [5] :: [] :: [] :: [])
noncomputable def fr9_code : Code := ((Try.f4.body.bind (codeRegion 9)).getD .skip)
set_option maxRecDepth 100000 in
set_option maxHeartbeats 4000000 in
theorem fr9_in (m : Ms) (p1 o1 s1 p2 o2 s2 : Value) (er : Int) (mb wb : Nat) (hlm : m.pairs.length ≤ 1000 ∧ m.orders.length ≤ 1000 ∧ m.srcs.length ≤ 1000) (hfo : ∀ p ∈ m.orders, p.Fit) (hn1 : s1 = .slice none 0 0 ∨ ∃ ad n c, s1 = .slice (some ad) n c) (u0 u1 u2 u3 u6 u9 u10 u11 u12 u13 u14 u15 u16 u17 u18 u19 u20 u21 u22 u23 u24 u25 u26 u27 u28 u29 u30 u31 u32 u33 u34 u35 u36 u37 u38 u39 u40 u41 u42 u43 u44 u45 u46 u47 u48 u49 u50 u51 u52 u53 u54 u55 u56 u57 : Value) (w0 : World) (hM : Is w0 mb 27 (m.cls p1 o1 s1)) (hW : Is w0 wb 33 (m.cls p2 o2 s2)) (hDm : RdM m p1 o1 s1 w0) (hDw : RdM m p2 o2 s2 w0) :
    Code.wp Try.prog fr9_code (fun e a w' => ∃ y30 y31 y32 y33 y34 y35 y36 y37 y38 : Value, a = ⟨(List.toArray (u0 :: u1 :: u2 :: u3 :: .pointer (some ⟨wb, 0, none⟩) :: .int .i64 er :: u6 :: .pointer (some ⟨mb, 0, none⟩) :: .int .i64 er :: u9 :: u10 :: u11 :: u12 :: u13 :: u14 :: u15 :: u16 :: u17 :: u18 :: u19 :: u20 :: u21 :: u22 :: u23 :: u24 :: u25 :: u26 :: u27 :: u28 :: u29 :: y30 :: y31 :: y32 :: y33 :: y34 :: y35 :: y36 :: y37 :: y38 :: .bool false :: u40 :: u41 :: u42 :: u43 :: u44 :: u45 :: u46 :: u47 :: u48 :: u49 :: u50 :: u51 :: u52 :: u53 :: u54 :: u55 :: u56 :: u57 :: [])), []⟩ ∧ e = .normal ∧ Only (fun _ => False) w0 w') ⟨(List.toArray (u0 :: u1 :: u2 :: u3 :: .pointer (some ⟨wb, 0, none⟩) :: .int .i64 er :: u6 :: .pointer (some ⟨mb, 0, none⟩) :: .int .i64 er :: u9 :: u10 :: u11 :: u12 :: u13 :: u14 :: u15 :: u16 :: u17 :: u18 :: u19 :: u20 :: u21 :: u22 :: u23 :: u24 :: u25 :: u26 :: u27 :: u28 :: u29 :: u30 :: u31 :: u32 :: u33 :: u34 :: u35 :: u36 :: u37 :: u38 :: u39 :: u40 :: u41 :: u42 :: u43 :: u44 :: u45 :: u46 :: u47 :: u48 :: u49 :: u50 :: u51 :: u52 :: u53 :: u54 :: u55 :: u56 :: u57 :: [])), []⟩ w0 := by
  conv => arg 2; whnf
  have HRF := Lib.hid (fun (wx : World) (h : Only (fun _ => False) w0 wx) => fref_is m p1 o1 s1 wx (hDm.only h) hn1 hlm hfo)
  have HRS := Lib.hid (fun (wx : World) (h : Only (fun _ => False) w0 wx) (vp vo vs : Value) (hd : RdM m vp vo vs wx) => rmsame_yes m vp vo vs p2 o2 s2 wx hd (hDw.only h) (by omega))
  clear hlm hfo hn1 hDm hDw
  refine wp_region_posts fr9_A [5, 7] [5] fr9_kill fr9_uses [] [] [] []
      (some ?v0 :: some ?v1 :: some (.bool false) :: some ?v3 :: some ?v4 :: none :: some ?v6 :: some (.bool true) :: some ?v8 :: some ?v9 :: [])
      ?T (fun wx => Only (fun _ => False) w0 wx) ?W ?E (by kernel_rfl) (by kernel_rfl) (by kernel_rfl) (fun x => ?hT) ?hF ?hini (Reg.all_ops ?runs) ?pres ?fin
  case W => exact fun j x wz => match j with | 5 => ∃ vp vo vs, x 5 = .agg (m.cls vp vo vs) ∧ RdM m vp vo vs wz | _ => True
  case E => exact fun _ wx wy => Only (fun _ => False) wx wy
  case hT =>
    simp only [Reg.fillV, Act.put, List.setIfInBounds_toArray, List.set_cons_zero, List.set_cons_succ]
    rfl
  case runs =>
    refine And.intro ?_ ?_
    · refine Reg.ob_pure (fun _ => rfl) rfl rfl rfl rfl (fun x w1 hF => ?_)
      go_simp
      with_reducible rfl
    refine And.intro ?_ ?_
    · refine Reg.ob_pure (fun _ => rfl) rfl rfl rfl rfl (fun x w1 hF => ?_)
      go_simp
      with_reducible rfl
    refine And.intro ?_ ?_
    · refine Reg.ob_pure (fun _ => rfl) rfl rfl rfl rfl (fun x w1 hF => ?_)
      go_simp
    refine And.intro ?_ ?_
    · refine Reg.ob_pure (fun _ => rfl) rfl rfl rfl rfl (fun x w1 hF => ?_)
      go_simp
      with_reducible rfl
    refine And.intro ?_ ?_
    · refine Reg.ob_pure (fun _ => rfl) rfl rfl rfl rfl (fun x w1 hF => ?_)
      obtain ⟨m0, m1, m2, m3, m4, m5, m6, m7⟩ := cls_cells (hM.only hF (by simp))
      go_simp
      with_reducible rfl
    refine And.intro ?_ ?_
    · refine Reg.ob_some (fun _ => rfl) rfl (fun x w1 hF hU K hK => ?_)
      have hF := hF rfl
      go_simp
      refine (HRF.out w1 hF).mono ?_
      rintro e w5 ⟨vp, vo, vs, rfl, hd, ho⟩
      exact hK _ w5 (fun _ _ _ => hF.trans ho (fun _ _ e => e)) ho ⟨vp, vo, vs, rfl, hd⟩
    refine And.intro ?_ ?_
    · refine Reg.ob_pure (fun _ => rfl) rfl rfl rfl rfl (fun x w1 hF => ?_)
      obtain ⟨m0, m1, m2, m3, m4, m5, m6, m7⟩ := cls_cells (hW.only hF (by simp))
      go_simp
      with_reducible rfl
    refine And.intro ?_ ?_
    · refine Reg.ob_known (fun _ => rfl) rfl rfl (fun x w1 hF hU K hK => ?_)
      have hF := hF rfl
      obtain ⟨⟨vp, vo, vs, hx, hd⟩, -⟩ := hU
      have hx : x 5 = .agg (m.cls vp vo vs) := hx
      revert hK
      simp only [Nat.reduceAdd, hx]
      intro hK
      go_simp
      refine (HRS.out w1 hF vp vo vs hd).mono ?_
      rintro e w5 ⟨rfl, ho⟩
      exact hK _ (fun _ _ _ => hF.trans ho (fun _ _ e => e)) ho
    refine And.intro ?_ ?_
    · refine Reg.ob_pure (fun _ => rfl) rfl rfl rfl rfl (fun x w1 hF => ?_)
      go_simp
      with_reducible rfl
    refine And.intro ?_ ?_
    · refine Reg.ob_pure (fun _ => rfl) rfl rfl rfl rfl (fun x w1 hF => ?_)
      go_simp
      with_reducible rfl
    exact trivial
  case hF =>
    exact (Only.refl _ w0).drewN 1
  case hini =>
    exact trivial
  case pres =>
    intro i hi j hj hc x wx wy hF hE hW
    simp only [List.mem_cons, List.mem_nil_iff, or_false] at hj
    subst hj
    obtain ⟨vp, vo, vs, h1, h2⟩ := hW
    exact ⟨vp, vo, vs, h1, RdM.only h2 hE⟩
  case fin =>
    rintro x w9 hF hU
    repeat apply Exists.intro
    exact ⟨rfl, rfl, hF rfl⟩

set_option maxRecDepth 100000 in
set_option maxHeartbeats 4000000 in
theorem fr9 (m : Ms) (p1 o1 s1 p2 o2 s2 : Value) (er : Int) (mb wb : Nat) (hlm : m.pairs.length ≤ 1000 ∧ m.orders.length ≤ 1000 ∧ m.srcs.length ≤ 1000) (hfo : ∀ p ∈ m.orders, p.Fit) (hn1 : s1 = .slice none 0 0 ∨ ∃ ad n c, s1 = .slice (some ad) n c) (u0 u1 u2 u3 u6 u9 u10 u11 u12 u13 u14 u15 u16 u17 u18 u19 u20 u21 u22 u23 u24 u25 u26 u27 u28 u29 u30 u31 u32 u33 u34 u35 u36 u37 u38 u39 u40 u41 u42 u43 u44 u45 u46 u47 u48 u49 u50 u51 u52 u53 u54 u55 u56 u57 : Value) (Q : Exit → Act → World → Prop) (w0 : World) (hM : Is w0 mb 27 (m.cls p1 o1 s1)) (hW : Is w0 wb 33 (m.cls p2 o2 s2)) (hDm : RdM m p1 o1 s1 w0) (hDw : RdM m p2 o2 s2 w0)
    (hend : ∀ (y30 y31 y32 y33 y34 y35 y36 y37 y38 : Value) (w' : World), Only (fun _ => False) w0 w' → Q .normal ⟨(List.toArray (u0 :: u1 :: u2 :: u3 :: .pointer (some ⟨wb, 0, none⟩) :: .int .i64 er :: u6 :: .pointer (some ⟨mb, 0, none⟩) :: .int .i64 er :: u9 :: u10 :: u11 :: u12 :: u13 :: u14 :: u15 :: u16 :: u17 :: u18 :: u19 :: u20 :: u21 :: u22 :: u23 :: u24 :: u25 :: u26 :: u27 :: u28 :: u29 :: y30 :: y31 :: y32 :: y33 :: y34 :: y35 :: y36 :: y37 :: y38 :: .bool false :: u40 :: u41 :: u42 :: u43 :: u44 :: u45 :: u46 :: u47 :: u48 :: u49 :: u50 :: u51 :: u52 :: u53 :: u54 :: u55 :: u56 :: u57 :: [])), []⟩ w') :
    Code.wp Try.prog fr9_code Q ⟨(List.toArray (u0 :: u1 :: u2 :: u3 :: .pointer (some ⟨wb, 0, none⟩) :: .int .i64 er :: u6 :: .pointer (some ⟨mb, 0, none⟩) :: .int .i64 er :: u9 :: u10 :: u11 :: u12 :: u13 :: u14 :: u15 :: u16 :: u17 :: u18 :: u19 :: u20 :: u21 :: u22 :: u23 :: u24 :: u25 :: u26 :: u27 :: u28 :: u29 :: u30 :: u31 :: u32 :: u33 :: u34 :: u35 :: u36 :: u37 :: u38 :: u39 :: u40 :: u41 :: u42 :: u43 :: u44 :: u45 :: u46 :: u47 :: u48 :: u49 :: u50 :: u51 :: u52 :: u53 :: u54 :: u55 :: u56 :: u57 :: [])), []⟩ w0 := by
  refine wp_mono (fr9_in m p1 o1 s1 p2 o2 s2 er mb wb hlm hfo hn1 _ _ _ _ _ _ _ _ _ _ _ _ _ _ _ _ _ _ _ _ _ _ _ _ _ _ _ _ _ _ _ _ _ _ _ _ _ _ _ _ _ _ _ _ _ _ _ _ _ _ _ _ _ _ w0 hM hW hDm hDw) ?_
  rintro e a w' h
  obtain ⟨y30, h⟩ := h
  obtain ⟨y31, h⟩ := h
  obtain ⟨y32, h⟩ := h
  obtain ⟨y33, h⟩ := h
  obtain ⟨y34, h⟩ := h
  obtain ⟨y35, h⟩ := h
  obtain ⟨y36, h⟩ := h
  obtain ⟨y37, h⟩ := h
  obtain ⟨y38, h⟩ := h
  obtain ⟨h, rfl, hq⟩ := h
  subst h
  exact hend y30 y31 y32 y33 y34 y35 y36 y37 y38 w' hq
def fr12_A : List (List Nat) := ([] :: [0] :: [] :: [2, 1, 0] :: [3, 2, 1, 0] :: [1, 4, 0, 3, 2] :: [5, 3, 1, 4, 0, 2] :: [6, 5, 3, 1, 4, 0, 2] :: (7 :: 6 :: 5 :: 3 :: 1 :: 4 :: 0 :: 2 :: []) :: [6, 5, 3, 1, 4, 0, 2] :: (9 :: 6 :: 5 :: 3 :: 1 :: 4 :: 0 :: 2 :: []) :: (8 :: 10 :: 6 :: 7 :: 5 :: 3 :: 1 :: 4 :: 0 :: 2 :: 9 :: []) :: (6 :: 11 :: 5 :: 3 :: 1 :: 4 :: 0 :: 2 :: 8 :: 10 :: 7 :: 9 :: []) :: (12 :: 11 :: 6 :: 5 :: 3 :: 1 :: 4 :: 0 :: 2 :: 8 :: 10 :: 7 :: 9 :: []) :: (13 :: 12 :: 11 :: 6 :: 5 :: 3 :: 1 :: 4 :: 0 :: 2 :: 8 :: 10 :: 7 :: 9 :: []) :: (13 :: 14 :: 12 :: 11 :: 6 :: 5 :: 3 :: 1 :: 4 :: 0 :: 2 :: 8 :: 10 :: 7 :: 9 :: []) :: (15 :: 14 :: 0 :: 1 :: 2 :: 3 :: 4 :: 5 :: 6 :: 7 :: 8 :: 9 :: 10 :: 11 :: 12 :: 13 :: []) :: [])
def fr12_kill : List (List Nat) := ([] :: [] :: [] :: [] :: [] :: [] :: [] :: [] :: [] :: [] :: [] :: [] :: [] :: [] :: [] :: [] :: [] :: [])
def fr12_uses : List (List Nat) := ([] :: [] :: [] :: [] :: [] :: [] :: [] :: [] :: [] :: [] :: [] :: [8, 10] :: [] :: [] :: [] :: [] :: [] :: [])
noncomputable def fr12_code : Code := ((Try.f4.body.bind (codeRegion 12)).getD .skip)
set_option maxRecDepth 100000 in
set_option maxHeartbeats 4000000 in
theorem fr12_in (kd ct pad : Nat) (v1 v2 : Value) (bs : List Nat) (pb rb : Nat) (hl : bs.length ≤ 1200) (u0 u2 u4 u5 u6 u7 u8 u9 u10 u11 u12 u13 u14 u15 u16 u17 u18 u19 u20 u21 u22 u23 u24 u25 u26 u27 u28 u29 u30 u31 u32 u33 u34 u35 u36 u37 u38 u39 u40 u41 u42 u43 u44 u45 u46 u47 u48 u49 u50 u51 u52 u53 u54 u55 u56 u57 : Value) (w0 : World) (hP : Is w0 pb 41 #[.int .u8 (ct : Nat), .int .u8 (kd : Nat), v1, .int .u8 (pad : Nat)]) (hR : Is w0 rb 37 #[.int .u8 (ct : Nat), .int .u8 (kd : Nat), v2, .int .u8 (pad : Nat)]) (hs1 : Src w0 v1 bs) (hs2 : Src w0 v2 bs) :
    Code.wp Try.prog fr12_code (fun e a w' => ∃ y42 y43 y44 y45 y46 y47 y48 y49 y50 y51 y52 y53 y54 y55 y56 y57 : Value, a = ⟨(List.toArray (u0 :: .pointer (some ⟨pb, 0, none⟩) :: .bool true :: .pointer (some ⟨rb, 0, none⟩) :: u4 :: u5 :: u6 :: u7 :: u8 :: u9 :: u10 :: u11 :: u12 :: u13 :: u14 :: u15 :: u16 :: u17 :: u18 :: u19 :: u20 :: u21 :: u22 :: u23 :: u24 :: u25 :: u26 :: u27 :: u28 :: u29 :: u30 :: u31 :: u32 :: u33 :: u34 :: u35 :: u36 :: u37 :: u38 :: u39 :: u40 :: u41 :: y42 :: y43 :: y44 :: y45 :: y46 :: y47 :: y48 :: y49 :: y50 :: y51 :: y52 :: y53 :: y54 :: y55 :: y56 :: y57 :: [])), []⟩ ∧ e = .normal ∧ Only (fun _ => False) w0 w') ⟨(List.toArray (u0 :: .pointer (some ⟨pb, 0, none⟩) :: u2 :: .pointer (some ⟨rb, 0, none⟩) :: u4 :: u5 :: u6 :: u7 :: u8 :: u9 :: u10 :: u11 :: u12 :: u13 :: u14 :: u15 :: u16 :: u17 :: u18 :: u19 :: u20 :: u21 :: u22 :: u23 :: u24 :: u25 :: u26 :: u27 :: u28 :: u29 :: u30 :: u31 :: u32 :: u33 :: u34 :: u35 :: u36 :: u37 :: u38 :: u39 :: u40 :: u41 :: u42 :: u43 :: u44 :: u45 :: u46 :: u47 :: u48 :: u49 :: u50 :: u51 :: u52 :: u53 :: u54 :: u55 :: u56 :: u57 :: [])), []⟩ w0 := by
  conv => arg 2; whnf
  have HIS := Lib.hid (fun (wx : World) (h : Only (fun _ => False) w0 wx) => fis_is kd ct pad v1 wx)
  have HSO := Lib.hid (fun (wx : World) (h : Only (fun _ => False) w0 wx) => rsort_is kd ct pad v2 wx)
  have HDS := Lib.hid (fun (wx : World) (h : Only (fun _ => False) w0 wx) (g g2 : Nat) (hI : Is wx g 41 #[.int .u8 (ct : Nat), .int .u8 (kd : Nat), v1, .int .u8 (pad : Nat)]) (hJ : Is wx g2 37 #[.int .u8 (ct : Nat), .int .u8 (kd : Nat), v2, .int .u8 (pad : Nat)]) => docs_same _ _ [⟨ct, kd, pad, bs⟩] wx (rdk_1 hI (hs1.of_only h)) (rdk_1 hJ (hs2.of_only h)) (by simp) (fun q hq => (show q = ⟨ct, kd, pad, bs⟩ from (by simpa using hq)) ▸ Nat.le_trans hl (by decide)))
  have HWK := Lib.hid (fun (wx : World) (h : Only (fun _ => False) w0 wx) => fworks_any wx)
  generalize sOf kd ct = s at *
  obtain ⟨bb, hbb⟩ : ∃ bb, decide (0 < s) = bb := ⟨_, rfl⟩
  have hbi : decide ((0 : Int) < (s : Int)) = bb := by rw [← hbb]; simp
  rw [hbb] at HIS
  clear hs1 hs2 hl
  refine wp_region_posts fr12_A [1, 3, 8, 10, 11, 14] [8, 10] fr12_kill fr12_uses [] [] [] []
      (some ?v0 :: some (.bool bb) :: some ?v2 :: some (.int .u8 (s : Nat)) :: some (.bool bb) :: some (.bool true) :: some ?v6 :: some ?v7 :: none :: some ?v9 :: none :: some (.bool true) :: some ?v12 :: some ?v13 :: some (.bool true) :: some ?v15 :: some ?v16 :: [])
      ?T (fun wx => Only (fun _ => False) w0 wx) ?W ?E (by kernel_rfl) (by kernel_rfl) (by kernel_rfl) (fun x => ?hT) ?hF ?hini (Reg.all_ops ?runs) ?pres ?fin
  case W => exact fun j x wz => match j with | 8 => ∃ g, x 8 = .slice (some ⟨g, 0, none⟩) 1 1 ∧ Is wz g 41 #[.int .u8 (ct : Nat), .int .u8 (kd : Nat), v1, .int .u8 (pad : Nat)] | 10 => ∃ g, x 10 = .slice (some ⟨g, 0, none⟩) 1 1 ∧ Is wz g 37 #[.int .u8 (ct : Nat), .int .u8 (kd : Nat), v2, .int .u8 (pad : Nat)] | _ => True
  case E => exact fun _ wx wy => Only (fun _ => False) wx wy
  case hT =>
    simp only [Reg.fillV, Act.put, List.setIfInBounds_toArray, List.set_cons_zero, List.set_cons_succ]
    rfl
  case runs =>
    refine And.intro ?_ ?_
    · refine Reg.ob_pure (fun _ => rfl) rfl rfl rfl rfl (fun x w1 hF => ?_)
      have m0 := (hP.only hF (by simp)).cell 0
      have m1 := (hP.only hF (by simp)).cell 1
      have m2 := (hP.only hF (by simp)).cell 2
      have m3 := (hP.only hF (by simp)).cell 3
      simp at m0 m1 m2 m3
      go_simp
      with_reducible rfl
    refine And.intro ?_ ?_
    · refine Reg.ob_known (fun _ => rfl) rfl rfl (fun x w1 hF hU K hK => ?_)
      have hF := hF rfl
      go_simp
      refine (HIS.out w1 hF).mono ?_
      rintro e w5 ⟨rfl, ho⟩
      exact hK _ (fun _ _ _ => hF.trans ho (fun _ _ e => e)) ho
    refine And.intro ?_ ?_
    · refine Reg.ob_pure (fun _ => rfl) rfl rfl rfl rfl (fun x w1 hF => ?_)
      have m0 := (hR.only hF (by simp)).cell 0
      have m1 := (hR.only hF (by simp)).cell 1
      have m2 := (hR.only hF (by simp)).cell 2
      have m3 := (hR.only hF (by simp)).cell 3
      simp at m0 m1 m2 m3
      go_simp
      with_reducible rfl
    refine And.intro ?_ ?_
    · refine Reg.ob_known (fun _ => rfl) rfl rfl (fun x w1 hF hU K hK => ?_)
      have hF := hF rfl
      go_simp
      refine (HSO.out w1 hF).mono ?_
      rintro e w5 ⟨rfl, ho⟩
      exact hK _ (fun _ _ _ => hF.trans ho (fun _ _ e => e)) ho
    refine And.intro ?_ ?_
    · refine Reg.ob_pure (fun _ => rfl) rfl rfl rfl rfl (fun x w1 hF => ?_)
      go_simp
    refine And.intro ?_ ?_
    · refine Reg.ob_pure (fun _ => rfl) rfl rfl rfl rfl (fun x w1 hF => ?_)
      go_simp
    refine And.intro ?_ ?_
    · refine Reg.ob_pure (fun _ => rfl) rfl rfl rfl rfl (fun x w1 hF => ?_)
      go_simp
      with_reducible rfl
    refine And.intro ?_ ?_
    · refine Reg.ob_pure (fun _ => rfl) rfl rfl rfl rfl (fun x w1 hF => ?_)
      have m0 := (hP.only hF (by simp)).cell 0
      have m1 := (hP.only hF (by simp)).cell 1
      have m2 := (hP.only hF (by simp)).cell 2
      have m3 := (hP.only hF (by simp)).cell 3
      simp at m0 m1 m2 m3
      go_simp
      with_reducible rfl
    refine And.intro ?_ ?_
    · refine Reg.ob_some (fun _ => rfl) rfl (fun x w1 hF hU K hK => ?_)
      have hF := hF rfl
      go_simp
      exact hK _ _ (fun _ _ _ => hF.alloc _) ((Only.refl _ _).alloc _) ⟨_, rfl, Is.made _ _ _⟩
    refine And.intro ?_ ?_
    · refine Reg.ob_pure (fun _ => rfl) rfl rfl rfl rfl (fun x w1 hF => ?_)
      have m0 := (hR.only hF (by simp)).cell 0
      have m1 := (hR.only hF (by simp)).cell 1
      have m2 := (hR.only hF (by simp)).cell 2
      have m3 := (hR.only hF (by simp)).cell 3
      simp at m0 m1 m2 m3
      go_simp
      with_reducible rfl
    refine And.intro ?_ ?_
    · refine Reg.ob_some (fun _ => rfl) rfl (fun x w1 hF hU K hK => ?_)
      have hF := hF rfl
      go_simp
      exact hK _ _ (fun _ _ _ => hF.alloc _) ((Only.refl _ _).alloc _) ⟨_, rfl, Is.made _ _ _⟩
    refine And.intro ?_ ?_
    · refine Reg.ob_known (fun _ => rfl) rfl rfl (fun x w1 hF hU K hK => ?_)
      have hF := hF rfl
      obtain ⟨⟨g, hx, hI⟩, ⟨g2, hy, hJ⟩, -⟩ := hU
      have hx : x 8 = .slice (some ⟨g, 0, none⟩) 1 1 := hx
      have hy : x 10 = .slice (some ⟨g2, 0, none⟩) 1 1 := hy
      revert hK
      simp only [Nat.reduceAdd, hx, hy]
      intro hK
      go_simp
      refine (HDS.out w1 hF g g2 hI hJ).mono ?_
      rintro e w5 ⟨rfl, ho⟩
      exact hK _ (fun _ _ _ => hF.trans ho (fun _ _ e => e)) ho
    refine And.intro ?_ ?_
    · refine Reg.ob_pure (fun _ => rfl) rfl rfl rfl rfl (fun x w1 hF => ?_)
      go_simp
      with_reducible rfl
    refine And.intro ?_ ?_
    · refine Reg.ob_pure (fun _ => rfl) rfl rfl rfl rfl (fun x w1 hF => ?_)
      go_simp
      with_reducible rfl
    refine And.intro ?_ ?_
    · refine Reg.ob_known (fun _ => rfl) rfl rfl (fun x w1 hF hU K hK => ?_)
      have hF := hF rfl
      go_simp
      refine (HWK.out w1 hF).mono ?_
      rintro e w5 ⟨rfl, ho⟩
      exact hK _ (fun _ _ _ => hF.trans ho (fun _ _ e => e)) ho
    refine And.intro ?_ ?_
    · refine Reg.ob_pure (fun _ => rfl) rfl rfl rfl rfl (fun x w1 hF => ?_)
      go_simp
      with_reducible rfl
    refine And.intro ?_ ?_
    · refine Reg.ob_pure (fun _ => rfl) rfl rfl rfl rfl (fun x w1 hF => ?_)
      go_simp
      with_reducible rfl
    exact trivial
  case hF =>
    exact (Only.refl _ w0).drewN 1
  case hini =>
    exact trivial
  case pres =>
    intro i hi j hj hc x wx wy hF hE hW
    simp only [List.mem_cons, List.mem_nil_iff, or_false] at hj
    rcases hj with rfl | rfl
    · obtain ⟨g, h1, h2⟩ := hW
      exact ⟨g, h1, Is.only h2 hE (by simp)⟩
    · obtain ⟨g, h1, h2⟩ := hW
      exact ⟨g, h1, Is.only h2 hE (by simp)⟩
  case fin =>
    rintro x w9 hF hU
    repeat apply Exists.intro
    exact ⟨rfl, rfl, hF rfl⟩

set_option maxRecDepth 100000 in
set_option maxHeartbeats 4000000 in
theorem fr12 (kd ct pad : Nat) (v1 v2 : Value) (bs : List Nat) (pb rb : Nat) (hl : bs.length ≤ 1200) (u0 u2 u4 u5 u6 u7 u8 u9 u10 u11 u12 u13 u14 u15 u16 u17 u18 u19 u20 u21 u22 u23 u24 u25 u26 u27 u28 u29 u30 u31 u32 u33 u34 u35 u36 u37 u38 u39 u40 u41 u42 u43 u44 u45 u46 u47 u48 u49 u50 u51 u52 u53 u54 u55 u56 u57 : Value) (Q : Exit → Act → World → Prop) (w0 : World) (hP : Is w0 pb 41 #[.int .u8 (ct : Nat), .int .u8 (kd : Nat), v1, .int .u8 (pad : Nat)]) (hR : Is w0 rb 37 #[.int .u8 (ct : Nat), .int .u8 (kd : Nat), v2, .int .u8 (pad : Nat)]) (hs1 : Src w0 v1 bs) (hs2 : Src w0 v2 bs)
    (hend : ∀ (y42 y43 y44 y45 y46 y47 y48 y49 y50 y51 y52 y53 y54 y55 y56 y57 : Value) (w' : World), Only (fun _ => False) w0 w' → Q .normal ⟨(List.toArray (u0 :: .pointer (some ⟨pb, 0, none⟩) :: .bool true :: .pointer (some ⟨rb, 0, none⟩) :: u4 :: u5 :: u6 :: u7 :: u8 :: u9 :: u10 :: u11 :: u12 :: u13 :: u14 :: u15 :: u16 :: u17 :: u18 :: u19 :: u20 :: u21 :: u22 :: u23 :: u24 :: u25 :: u26 :: u27 :: u28 :: u29 :: u30 :: u31 :: u32 :: u33 :: u34 :: u35 :: u36 :: u37 :: u38 :: u39 :: u40 :: u41 :: y42 :: y43 :: y44 :: y45 :: y46 :: y47 :: y48 :: y49 :: y50 :: y51 :: y52 :: y53 :: y54 :: y55 :: y56 :: y57 :: [])), []⟩ w') :
    Code.wp Try.prog fr12_code Q ⟨(List.toArray (u0 :: .pointer (some ⟨pb, 0, none⟩) :: u2 :: .pointer (some ⟨rb, 0, none⟩) :: u4 :: u5 :: u6 :: u7 :: u8 :: u9 :: u10 :: u11 :: u12 :: u13 :: u14 :: u15 :: u16 :: u17 :: u18 :: u19 :: u20 :: u21 :: u22 :: u23 :: u24 :: u25 :: u26 :: u27 :: u28 :: u29 :: u30 :: u31 :: u32 :: u33 :: u34 :: u35 :: u36 :: u37 :: u38 :: u39 :: u40 :: u41 :: u42 :: u43 :: u44 :: u45 :: u46 :: u47 :: u48 :: u49 :: u50 :: u51 :: u52 :: u53 :: u54 :: u55 :: u56 :: u57 :: [])), []⟩ w0 := by
  refine wp_mono (fr12_in kd ct pad v1 v2 bs pb rb hl _ _ _ _ _ _ _ _ _ _ _ _ _ _ _ _ _ _ _ _ _ _ _ _ _ _ _ _ _ _ _ _ _ _ _ _ _ _ _ _ _ _ _ _ _ _ _ _ _ _ _ _ _ _ _ _ w0 hP hR hs1 hs2) ?_
  rintro e a w' h
  obtain ⟨y42, h⟩ := h
  obtain ⟨y43, h⟩ := h
  obtain ⟨y44, h⟩ := h
  obtain ⟨y45, h⟩ := h
  obtain ⟨y46, h⟩ := h
  obtain ⟨y47, h⟩ := h
  obtain ⟨y48, h⟩ := h
  obtain ⟨y49, h⟩ := h
  obtain ⟨y50, h⟩ := h
  obtain ⟨y51, h⟩ := h
  obtain ⟨y52, h⟩ := h
  obtain ⟨y53, h⟩ := h
  obtain ⟨y54, h⟩ := h
  obtain ⟨y55, h⟩ := h
  obtain ⟨y56, h⟩ := h
  obtain ⟨y57, h⟩ := h
  obtain ⟨h, rfl, hq⟩ := h
  subst h
  exact hend y42 y43 y44 y45 y46 y47 y48 y49 y50 y51 y52 y53 y54 y55 y56 y57 w' hq
end Go.Proofs.Ytefcimkopgcagaa

/- FeedbackReads' walk. Conditions: as it says. -/
set_option linter.unusedVariables false
set_option linter.unusedSimpArgs false
namespace Go.Proofs.Ytefcimkopgcagaa
open Go.RowKit

theorem rparse_len (kd ct : Nat) (bs : List Nat) (hb : ∀ x ∈ bs, x < 256) (hl : bs.length ≤ 1200) :
    ((rparse kd ct bs).1.pairs.length ≤ 300 ∧ (rparse kd ct bs).1.orders.length ≤ 300 ∧ (rparse kd ct bs).1.srcs.length ≤ 300) ∧ ∀ p ∈ (rparse kd ct bs).1.orders, p.Fit := by
  unfold rparse
  split
  · simp [ms0]
  split
  · simp [ms0]
  split
  · split
    · simp [msAt]; omega
    · simp [ms0]
  split
  · split
    · simp [msAt]
    · simp [ms0]
  split
  · split
    · rename_i hc
      refine ⟨by simp [msAt]; omega, fun p hp => ?_⟩
      obtain ⟨j, hj, rfl⟩ := List.mem_map.1 hp
      rw [List.mem_range] at hj
      refine ⟨four_lt bs _ hb (by omega), ?_⟩
      show bs.getD (8 + 8 * j + 4) 0 < 256
      rw [List.getD_eq_getElem?_getD, List.getElem?_eq_getElem (by omega)]
      exact hb _ (List.getElem_mem (by omega))
    · simp [ms0]
  split
  · simp [msAt]; omega
  · simp [ms0]
theorem own_null {w : World} {B : Nat} {v : Value} {ns : List Nat} (h : OwnS w B 22 1 v (ns.map fun x => [Value.int .u32 (x : Nat)])) : v = .slice none 0 0 ∨ ∃ ad n c, v = .slice (some ad) n c := by
  rcases h.1.2 with ⟨rfl, _⟩ | ⟨g, cap, cur, rfl, _⟩
  · exact .inl rfl
  · exact .inr ⟨_, _, _, rfl⟩
set_option maxRecDepth 100000 in
set_option maxHeartbeats 8000000 in
theorem freads_walk (kd ct pad : Nat) (vb : Value) (bs : List Nat) (w : World) (hs : Src w vb bs) (hb : ∀ x ∈ bs, x < 256) :
    Calls Try.prog 4 #[.agg #[.int .u8 (ct : Nat), .int .u8 (kd : Nat), vb, .int .u8 (pad : Nat)]] w fun e w' => e = .returned (.bool true) ∧ Only (fun _ => False) w w' := by
  obtain ⟨A, c, rfl⟩ := hs.slice
  have HS := Lib.hid hs
  have HB := Lib.hid hb
  obtain ⟨L, hL⟩ : ∃ L, bs.length = L := ⟨_, rfl⟩
  have HL := Lib.hid hL
  have HSL := Lib.hid (show Src w (.slice A L c) bs from by rw [← hL]; exact hs)
  rw [hL]
  clear hs hb hL HS
  obtain ⟨vb, hvb⟩ : ∃ v, Value.slice A L c = v := ⟨_, rfl⟩
  have HVB := Lib.hid hvb
  rw [hvb] at HSL ⊢
  clear hvb
  go_enter Try.func4, Try.ntmps4
  go_upto_region 1 with (fail)
  generalize hw1 : World.alloc w _ = w1
  obtain ⟨pb, hpb⟩ : ∃ k, w.heap.size = k := ⟨_, rfl⟩
  have I1 := Lib.hid (show Is w1 pb 41 #[.int .u8 (ct : Nat), .int .u8 (kd : Nat), vb, .int .u8 (pad : Nat)] from by rw [← hw1, ← hpb]; exact Is.made _ _ _)
  have O1 := Lib.hid (show Only (fun _ => False) w w1 from by rw [← hw1]; exact (Only.refl _ w).alloc _)
  rw [hpb]
  clear hw1 hpb
  have c2 : w1.cell? ⟨pb, 2, none⟩ = some (.slice A L c) := by rw [HVB.out]; exact I1.out.cell 2
  by_cases hbig : 1200 < L
  · have hbi : (1200 : Int) < (L : Int) := by omega
    go_wp2_with fail
    refine (fworks_any _).mono ?_
    rintro e w8 ⟨rfl, ho⟩
    have O8 := Lib.hid (O1.out.trans ho (fun _ _ e => e))
    clear ho
    go_wp2
    go_ret
    exact ⟨rfl, O8.out⟩
  · have hbi : ¬ (1200 : Int) < (L : Int) := by omega
    have HLE := Lib.hid (show bs.length ≤ 1200 from by have := HL.out; omega)
    have HDR := Lib.hid (fun (wx : World) (h : Only (fun _ => False) w wx) => docs_rtcp ⟨ct, kd, pad, bs⟩ vb wx (HSL.out.of_only h) (by have := HLE.out; show bs.length ≤ 1000000; omega))
    go_upto_region 4 with (first
      | (refine wpList_load_want (o := ⟨some 14, _, _, _, _, _⟩) rfl _ _ rfl pb rfl _ _ _ I1.out Try.underlying41 rfl Try.sizeRt ?_)
      | (go_at_call 21; refine (HDR.out _ O1.out).mono ?_; rintro e w2 ⟨A2, cc2, rfl, hu2, ho2⟩; have O2 := Lib.hid (O1.out.trans ho2 (fun _ _ e => e)); have U2 := Lib.hid hu2; have I2 := Lib.hid (I1.out.only ho2 (by simp)); clear ho2 hu2)
      | (refine wpList_store_is rfl 37 _ _ rfl w2.heap.size #[.int .u8 (ct : Nat), .int .u8 (kd : Nat), .slice A2 bs.length cc2, .int .u8 (pad : Nat)] rfl rfl 37 _ (Is.made w2 _ _) Try.sizeRq rfl (by simp [Value.oneCell']) ?_; intro w3 hi3 ho3; have o3 := fb_made ho3; have I3 := Lib.hid (I2.out.only o3 (by simp)); have R3 := Lib.hid hi3; have U3 := Lib.hid (owned_only U2.out o3 (by simp)); have O3 := Lib.hid (O2.out.trans o3 (fun _ _ e => e)); clear hi3 ho3 o3))
    obtain ⟨rb, hrb⟩ : ∃ k, w2.heap.size = k := ⟨_, rfl⟩
    rw [hrb] at R3 ⊢
    clear hrb I1 I2 U2 O1 O2 c2 HDR
    have S3 := Lib.hid (show Src w3 (.slice A2 bs.length cc2) bs from Src.of_own U3.out)
    obtain ⟨v2, hv2⟩ : ∃ v, Value.slice A2 bs.length cc2 = v := ⟨_, rfl⟩
    rw [hv2] at R3 S3
    clear U3 hv2
    have HRP := Lib.hid (fun (wx : World) (h : Only (fun _ => False) w3 wx) => rparse_is kd ct pad v2 bs wx (S3.out.of_only h) HB.out HLE.out)
    have HFP := Lib.hid (fun (wx : World) (h : Only (fun _ => False) w wx) => fparse_is kd ct pad vb bs wx (HSL.out.of_only h) HB.out (Nat.le_trans HLE.out (by decide)))
    have HLEN := Lib.hid (rparse_len kd ct bs HB.out HLE.out)
    unfold FParsed at HFP
    unfold RParsed at HRP
    generalize rparse kd ct bs = rr at *
    obtain ⟨m, er⟩ := rr
    simp only at HFP HRP HLEN
    go_upto_region 5 with (first
      | (refine wpList_load_want (o := ⟨some 17, _, _, _, _, _⟩) rfl _ _ rfl rb rfl _ _ _ R3.out Try.underlying37 rfl Try.sizeRq ?_)
      | (go_at_call 22; refine (HRP.out _ (Only.refl _ _)).mono ?_; rintro e w4 ⟨p2, o2, s2, rfl, hd4, ho4⟩; have O4 := Lib.hid (O3.out.trans ho4 (fun _ _ e => e)); have P4 := Lib.hid ho4; have D4 := Lib.hid hd4; have I4 := Lib.hid (I3.out.only ho4 (by simp)); have R4 := Lib.hid (R3.out.only ho4 (by simp)); clear ho4 hd4)
      | (refine wpList_store_is rfl 33 _ _ rfl w4.heap.size (m.cls p2 o2 s2) rfl rfl 33 _ (Is.made w4 _ _) Try.sizeRme rfl (Ms.one m (by obtain ⟨x, y, h, -⟩ := D4.out.p; exact ⟨_, _, _, h⟩) (by obtain ⟨x, y, h, -⟩ := D4.out.o; exact ⟨_, _, _, h⟩) (by obtain ⟨x, y, h, -⟩ := D4.out.s; exact ⟨_, _, _, h⟩)) ?_; intro w5 hi5 ho5; have o5 := fb_made ho5; have I5 := Lib.hid (I4.out.only o5 (by simp)); have R5 := Lib.hid (R4.out.only o5 (by simp)); have W5 := Lib.hid hi5; have D5 := Lib.hid (D4.out.only o5); have O5 := Lib.hid (O4.out.trans o5 (fun _ _ e => e)); have P5 := Lib.hid (P4.out.trans o5 (fun _ _ e => e)); clear hi5 ho5 o5))
    obtain ⟨wb, hwb⟩ : ∃ k, w4.heap.size = k := ⟨_, rfl⟩
    rw [hwb] at W5 ⊢
    clear hwb I3 I4 R3 R4 D4 O3 O4 P4 HRP
    have S5 := Lib.hid (S3.out.of_only P5.out)
    clear S3 P5
    go_wp2
    go_loopw [6] (fun i wr => ∃ j : Nat, j ≤ 2 ∧ i = .int .i64 (j : Int) ∧ Only (fun _ => False) w5 wr) (fun i _ => 2 - (intOf i).toNat)
    case atStart => exact ⟨0, by omega, rfl, Only.refl _ _⟩
    case round =>
      obtain ⟨j, hj, rfl, ho⟩ := hrel
      have O6 := Lib.hid ho
      clear ho
      have I6 := Lib.hid (I5.out.only O6.out (by simp))
      by_cases hj2 : j < 2
      · have hji : (j : Int) < 2 := by omega
        have OW := Lib.hid (O5.out.trans O6.out (fun _ _ e => e))
        go_upto_region 9 with (first
          | (refine wpList_load_want (o := ⟨some 26, _, _, _, _, _⟩) rfl _ _ rfl pb rfl _ _ _ I6.out Try.underlying41 rfl Try.sizeRt ?_)
          | (go_at_call 23; refine (HFP.out _ OW.out).mono ?_; rintro e w7 ⟨p1, o1, s1, rfl, hd7, ho7⟩; have O7 := Lib.hid (O6.out.trans ho7 (fun _ _ e => e)); have D7 := Lib.hid hd7; clear ho7 hd7)
          | (refine wpList_store_is rfl 27 _ _ rfl w7.heap.size (m.cls p1 o1 s1) rfl rfl 27 _ (Is.made w7 _ _) Try.sizeMe rfl (Ms.one m (by obtain ⟨x, y, h, -⟩ := D7.out.rd.p; exact ⟨_, _, _, h⟩) (by obtain ⟨x, y, h, -⟩ := D7.out.rd.o; exact ⟨_, _, _, h⟩) (by obtain ⟨x, y, h, -⟩ := D7.out.rd.s; exact ⟨_, _, _, h⟩)) ?_; intro w8 hi8 ho8; have o8 := fb_made ho8; have M8 := Lib.hid hi8; have D8 := Lib.hid (D7.out.only o8); have O8 := Lib.hid (O7.out.trans o8 (fun _ _ e => e)); clear hi8 ho8 o8))
        obtain ⟨mb, hmb⟩ : ∃ k, w7.heap.size = k := ⟨_, rfl⟩
        rw [hmb] at M8 ⊢
        clear hmb D7 O7
        refine fr9 m p1 o1 s1 p2 o2 s2 er mb wb (by have := HLEN.out.1; omega) HLEN.out.2 (own_null D8.out.2.2) _ _ _ _ _ _ _ _ _ _ _ _ _ _ _ _ _ _ _ _ _ _ _ _ _ _ _ _ _ _ _ _ _ _ _ _ _ _ _ _ _ _ _ _ _ _ _ _ _ _ _ _ _ _ _ w8 M8.out (W5.out.only O8.out (by simp)) D8.out.rd (D5.out.only O8.out) ?_
        rintro y30 y31 y32 y33 y34 y35 y36 y37 y38 w9 ho9
        have M9 := Lib.hid (M8.out.only ho9 (by simp))
        have D9 := Lib.hid (D8.out.only ho9)
        have O9 := Lib.hid (O8.out.trans ho9 (fun _ _ e => e))
        have HB6 := Lib.hid (show w5.heap.size ≤ wr.heap.size from O6.out.size)
        clear M8 D8 O8 ho9
        go_wp2_with (first
          | (refine wpList_load_want (o := ⟨some 40, _, _, _, _, _⟩) rfl _ _ rfl mb rfl _ _ _ M9.out Try.underlying27 rfl Try.sizeMe ?_)
          | (go_at_call 24; refine (fspoil_is m p1 o1 s1 wr.heap.size w9 D9.out (by have := HLEN.out.1; omega)).mono ?_; rintro e w10 ⟨rfl, ho10⟩; have O10 := Lib.hid (show Only (fun _ => False) w5 w10 from O9.out.trans ho10 (fun i hi e => by have := HB6.out; omega)); clear ho10))
        exact ⟨⟨j + 1, by omega, by go_num, O10.out⟩, by simp [intOf]; omega⟩
      · obtain rfl : j = 2 := by omega
        clear hj2 hj
        go_upto_region 12 with (fail)
        refine fr12 kd ct pad vb v2 bs pb rb HLE.out _ _ _ _ _ _ _ _ _ _ _ _ _ _ _ _ _ _ _ _ _ _ _ _ _ _ _ _ _ _ _ _ _ _ _ _ _ _ _ _ _ _ _ _ _ _ _ _ _ _ _ _ _ _ _ _ _ wr I6.out (R5.out.only O6.out (by simp)) (HSL.out.of_only (O5.out.trans O6.out (fun _ _ e => e))) (S5.out.of_only O6.out) ?_
        rintro y42 y43 y44 y45 y46 y47 y48 y49 y50 y51 y52 y53 y54 y55 y56 y57 w9 ho9
        have O9 := Lib.hid (O5.out.trans (O6.out.trans ho9 (fun _ _ e => e)) (fun _ _ e => e))
        clear ho9
        go_wp2
        go_ret
        exact ⟨rfl, O9.out⟩
end Go.Proofs.Ytefcimkopgcagaa
