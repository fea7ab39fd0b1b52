/- slices.Insert of a packet that waits: amid, where there is no room; in general. Conditions: as each says. -/
import Derived.Test.YtcjbiiphjahjpaaRoG
import Derived.Lib.AppendZeros
import Derived.Lib.AppendZerosOnto
import Derived.Laws.NewBlocks
set_option linter.unusedVariables false
set_option linter.unusedSimpArgs false
namespace Go.Proofs.Ytcjbiiphjahjpaa
open Go Go.RowKit

theorem ins_cells2 {cur : Array Value} {P xs D : List Value} {a b sz : Nat} (hP : P.length = a) (hD : D.length = b) (hx : xs.length = sz) (hs : a + sz + b ≤ cur.size) (ht : cur.toList.take a = P) :
    (setA (setA cur a xs) (a + sz) D).toList.take (a + sz + b) = P ++ (xs ++ D) := by
  apply List.ext_getElem?
  intro j
  rw [List.getElem?_take, Array.getElem?_toList]
  by_cases hj : j < a + sz + b
  · rw [if_pos hj, setA_get D _ _ j (by rw [setA_size]; omega)]
    by_cases h1 : j < a
    · rw [if_neg (by omega), setA_get xs cur _ j (by omega), if_neg (by omega), List.getElem?_append_left (by omega), ← ht, List.getElem?_take_of_lt h1, Array.getElem?_toList]
    · rw [List.getElem?_append_right (by omega), hP]
      by_cases h2 : j < a + sz
      · rw [if_neg (by omega), setA_get xs cur _ j (by omega), if_pos (by omega), List.getElem?_append_left (by omega)]
      · rw [if_pos (by omega), List.getElem?_append_right (by omega), hx, Nat.sub_sub]
  · rw [if_neg hj, List.getElem?_eq_none (by simp; omega)]
theorem own_grown {w : World} {B N n G i : Nat} {T : TypeId} {sz : Nat} {xss : List (List Value)} {xs : List Value} {ROW : Array Value} (h2s : ∀ ys ∈ xss, ys.length = sz) (hn : xss.length = n) (hi : i < n) (hx : xs.length = sz) (hR : Is w N T (setA ROW (i * sz) xs)) (hb : B ≤ N) (hGn : n + 1 ≤ G) (hG : G ≤ maxLen)
    (hP : (xss.take i).flatten.length = i * sz) (hD : (xss.drop i).flatten.length = (n - i) * sz) (hs : ROW.size = G * sz) (ht : ROW.toList.take (i * sz) = (xss.take i).flatten) :
    OwnS (w.setCells N ((i + 1) * sz) (xss.drop i).flatten) B T sz (.slice (some ⟨N, 0, none⟩) (n + 1) G) (xss.take i ++ xs :: xss.drop i) := by
  have hl : (xss.take i ++ xs :: xss.drop i).length = n + 1 := by rw [List.length_append, List.length_cons, List.length_take, List.length_drop]; omega
  have h2 : ∀ ys ∈ xss.take i ++ xs :: xss.drop i, ys.length = sz := fun ys hy => by
    rcases List.mem_append.1 hy with hy | hy
    · exact h2s ys (List.mem_of_mem_take hy)
    · rcases List.mem_cons.1 hy with rfl | hy
      · exact hx
      · exact h2s ys (List.mem_of_mem_drop hy)
  have hfl := flat_length _ h2
  have hff : (xss.take i ++ xs :: xss.drop i).flatten = (xss.take i).flatten ++ (xs ++ (xss.drop i).flatten) := by rw [List.flatten_append, List.flatten_cons]
  have hcm : (n + 1) * sz ≤ G * sz := Nat.mul_le_mul_right _ hGn
  have hsum : (n + 1) * sz = i * sz + sz + (n - i) * sz := by
    rw [show n + 1 = i + 1 + (n - i) by omega, Nat.add_mul, Nat.succ_mul]
  rw [Nat.succ_mul i sz]
  refine ⟨⟨hfl, .inr ⟨N, G, setA (setA ROW (i * sz) xs) (i * sz + sz) (xss.drop i).flatten, by rw [hl], hb, Is.many _ _ _ _ _ hR, by rw [hl]; exact hGn, hG, by rw [setA_size, setA_size]; exact hs, ?_⟩⟩, h2⟩
  rw [hl, hff, hsum]
  exact ins_cells2 hP hD hx (by omega) ht
set_option maxRecDepth 20000 in
set_option maxHeartbeats 4000000 in
theorem insert_grow (g n c i gx B : Nat) (xss : List (List Value)) (xs : List Value) (w : World) (h : OwnS w B 79 13 (.slice (some ⟨g, 0, none⟩) n c) xss) (hn : xss.length = n) (hi : i < n) (hI : Is w gx 79 xs.toArray) (hx : xs.length = 13) (h1 : ∀ u ∈ xs, u.oneCell' = true) (h1s : ∀ u ∈ xss.flatten, u.oneCell' = true) (hroom : c < n + 1) (hl : n ≤ 1000) (hB : B ≤ w.heap.size) :
    Calls Try.prog 33 #[.slice (some ⟨g, 0, none⟩) n c, .int .i64 (i : Int), .slice (some ⟨gx, 0, none⟩) 1 1] w (Inserted (.slice (some ⟨g, 0, none⟩) n c) i B xss xs w) := by
  obtain ⟨cur, hG, hcs, hxc, -, -⟩ := own_is h
  obtain ⟨hP, hD, hT⟩ := flat_part h.2 hn (Nat.le_of_lt hi)
  obtain ⟨i0, z, hi0, hz0, hzs, hzb, hz3⟩ := sty_wt.info
  obtain rfl : n = c := by omega
  have hgl : g < w.heap.size := hG.lt
  have hold : (Builtin.firstCells i0.size i (.slice (some ⟨g, 0, none⟩) i n)).run Try.prog w.drew = .ok (xss.take i).flatten.toArray w.drew := by
    rw [hzs]
    exact run_firstCells_some w.drew 13 i ⟨g, 0, none⟩ i n (xss.take i).flatten hP (fun j v hj => by
      rw [Addr.add_lit]
      have hp : OwnS w B 79 13 (.slice (some ⟨g, 0, none⟩) i n) (xss.take i) := h.pre hn (Nat.le_of_lt hi)
      have := hp.from_ (k := 0) j v (by simpa using hj)
      rw [Nat.zero_mul] at this
      exact this)
  have hrz : ∀ ty, (Builtin.append_ #[63, 3] ty #[.slice (some ⟨g, 0, none⟩) i n, .int .i64 ((n : Int) + 1 - (i : Int))]).run Try.prog w =
      .ok (.slice (some ⟨w.heap.size, 0, none⟩) (n + 1) (grownCap w (n + 1) n 79)) (w.drew.alloc (.cells ((xss.take i).flatten.toArray ++ Builtin.zeroCells z.cells (n + 1 - i) ++ Builtin.zeroCells z.cells (grownCap w (n + 1) n 79 - (n + 1))) 79)) := fun ty => by
    have hik : i + (n + 1 - i) = n + 1 := by omega
    have h := Lib.run_append_grow_zeros w 63 3 ty 79 i0 _ .i64 .i64 Try.underlying63 Try.underlying3 hi0 hz0 (some ⟨g, 0, none⟩) i n (xss.take i).flatten hold (n + 1 - i) (by omega) (by omega) (by omega) (by omega) (by rw [hzb]; omega) (by rw [hzb, hik]; exact growslice_fits hroom (by omega))
    rw [hik] at h
    rw [show (n : Int) + 1 - (i : Int) = ((n + 1 - i : Nat) : Int) by omega]
    exact h
  obtain ⟨G, hGd⟩ : ∃ G, G = grownCap w (n + 1) n 79 := ⟨_, rfl⟩
  have hGn : n + 1 ≤ G := by rw [hGd]; exact grownCap_ge w _ _ _
  have hG63 : G ≤ maxLen := by rw [hGd]; exact grownCap_le_maxLen w (n + 1) n 79 (by unfold maxLen; omega)
  rw [← hGd] at hrz
  obtain ⟨ROW, hROW⟩ : ∃ ROW : Array Value, ROW = (xss.take i).flatten.toArray ++ Builtin.zeroCells z.cells (n + 1 - i) ++ Builtin.zeroCells z.cells (G - (n + 1)) := ⟨_, rfl⟩
  rw [← hROW] at hrz
  have hRs : ROW.size = G * 13 := by
    rw [hROW, Array.size_append, Array.size_append, zeroCells_size, zeroCells_size, hz3, List.size_toArray, hP]
    omega
  have hRt : ROW.toList.take (i * 13) = (xss.take i).flatten := by
    rw [hROW, Array.append_assoc, Array.toList_append, List.take_append_of_le_length (by rw [List.toList_toArray, hP]; exact Nat.le_refl _), List.toList_toArray]
    exact List.take_of_length_le (by rw [hP]; exact Nat.le_refl _)
  obtain ⟨N, hN⟩ : ∃ N, N = w.heap.size := ⟨_, rfl⟩
  obtain ⟨W1, hW1⟩ : ∃ W1, W1 = w.drew.alloc (.cells ROW 79) := ⟨_, rfl⟩
  have hR1 : Is W1 N 79 ROW := by rw [hW1, hN]; exact Is.made w.drew _ _
  have hO1 : Only (fun _ => False) w W1 := by rw [hW1]; exact ((Only.refl _ w).drewN 1).alloc _
  rw [← hW1, ← hN] at hrz
  clear hW1
  obtain ⟨W2, hW2⟩ : ∃ W2, W2 = W1.setCells N (i * 13) xs := ⟨_, rfl⟩
  have hX1 : Is W1 gx 79 xs.toArray := hI.only hO1 (by simp)
  have hcpA := fun ty => run_copy_wide (P := Try.prog) W1 63 63 ty 79 N (i * 13) (n + 1 - i) (G - i) ⟨gx, 0, none⟩ 1 1 13 1 xs Try.underlying63 Try.sizeWt (by simp only [Nat.min_def]; split <;> omega) (by omega)
    (fun j u hj => by rw [Addr.add_lit, Nat.zero_add, hX1.cell, ← hj]; simp)
    (fun j hj => by
      rw [hR1.cell, Array.getElem?_eq_getElem (by omega)]
      rfl)
    (fun j _ => hR1.free _) h1
  rw [← hW2] at hcpA
  have hR2 : Is W2 N 79 (setA ROW (i * 13) xs) := by rw [hW2]; exact Is.many _ _ _ _ _ hR1
  have hO2 : Only (fun k => k = N) W1 W2 := by rw [hW2]; exact Only.many _ _ _ (Only.refl _ W1) (fun _ => rfl)
  have hgN : g ≠ N := by omega
  have hcpB := Lib.hid (fun ty => run_copy_wide (P := Try.prog) W2.drew 63 63 ty 79 N ((i + 1) * 13) (n + 1 - (i + 1)) (G - (i + 1)) ⟨g, i * 13, none⟩ (n - i) (n - i) 13 (n - i) (xss.drop i).flatten Try.underlying63 Try.sizeWt (by simp only [Nat.min_def]; split <;> omega) hD
    (fun j u hj => by
      rw [Addr.add_lit]
      exact OwnS.from_ (OwnS.only (OwnS.only h hO1 (by simp)) hO2 (fun k hk e => by simp [Value.ownBlock] at hk; omega)) j u hj)
    (fun j hj => by
      rw [hD] at hj
      show (W2.cell? _).isSome = true
      rw [hR2.cell, Array.getElem?_eq_getElem (by rw [setA_size]; omega)]
      rfl)
    (fun j _ => hR2.free _)
    (fun u hu => h1s u (by rw [show xss.flatten = (xss.take i).flatten ++ (xss.drop i).flatten by rw [← List.flatten_append, List.take_append_drop]]; exact List.mem_append_right _ hu)))
  have HR2 := Lib.hid hR2
  have HO := Lib.hid (show Only (fun _ => False) w W2 from hO1.trans hO2 (fun k hk e => by omega))
  have hb1 : ¬ G = i + 1 := by omega
  have hb2 : ¬ G = i := by omega
  have hb0 : ¬ n = i := by omega
  have hb3 : (i : Int) < (n : Int) := by omega
  have hw1 : IntKind.i64.wrap ((i : Int) + 1) = (i : Int) + 1 := by rw [IntKind.wrap_i64]; omega
  have hb5 : (0 : Int) ≤ (i : Int) + 1 := by omega
  have htn : ((i : Int) + 1).toNat = i + 1 := by omega
  have hb6 : (i : Int) ≤ (n : Int) + 1 := by omega
  have hb7 : (i : Int) + 1 ≤ (n : Int) + 1 := by omega
  have hb8 : i ≤ n := by omega
  have hb9 : (i : Int) ≤ (n : Int) := by omega
  have hG6 : G ≤ 9223372036854775807 := by unfold maxLen at hG63; omega
  have HX := Lib.hid (And.intro hP (And.intro hD (And.intro hRs hRt)))
  have HH := Lib.hid h
  have HG := Lib.hid (show B ≤ N ∧ N = w.heap.size from by omega)
  clear hR2 hO1 hO2 hX1 hR1 hW2 hP hD hT hRs hRt hROW hGd hold hG hcs h hI h1 h1s hz0 hzs hzb hz3 hi0 hgl hgN hB hN
  replace hrz := Lib.hid hrz
  replace hcpA := Lib.hid hcpA
  go_enter Try.func33, Try.ntmps33
  go_upto_region 10 with (at_builtin; refine Lib.wpList_append_run _ rfl _ _ _ _ rfl _ _ rfl rfl _ _ (hrz.out _) ?_)
  have e2 := hcpA.out
  go_wp2_with fail
  clear e2
  go_region_law (refine step_copy_of rfl _ _ 63 63 rfl (.slice (some ⟨N, (i + 1) * 13, none⟩) (n + 1 - (i + 1)) (G - (i + 1))) (.slice (some ⟨g, i * 13, none⟩) (n - i) (n - i)) (by simp [Act.eval, Act.put]) (by simp [Act.eval, Act.put]) hcpB.out ?_)
  go_wp2
  go_ret
  obtain ⟨q1, q2, q3, q4⟩ := HX.out
  have q5 := HG.out
  refine ⟨_, rfl, own_grown (w := W2.drew) HH.out.2 hn hi hx HR2.out q5.1 hGn hG63 q1 q2 q3 q4, ?_⟩
  exact ((HO.out.drewN 1).trans (Only.many (S := fun k => k = N) _ _ _ (Only.refl _ _) (fun _ => rfl)) (fun k hk e => by omega)).mono (fun k _ h => h.elim)
/-- slices.Insert of one packet that waits. -/
theorem insert_is (v : Value) (n i gx B : Nat) (xss : List (List Value)) (xs : List Value) (w : World) (h : OwnS w B 79 13 v xss) (hn : xss.length = n) (hi : i ≤ n) (hI : Is w gx 79 xs.toArray) (hx : xs.length = 13) (h1 : ∀ u ∈ xs, u.oneCell' = true) (h1s : ∀ u ∈ xss.flatten, u.oneCell' = true) (hne : v.ownBlock ≠ some gx) (hl : n ≤ 1000) (hB : B ≤ w.heap.size) :
    Calls Try.prog 33 #[v, .int .i64 (i : Int), .slice (some ⟨gx, 0, none⟩) 1 1] w (Inserted v i B xss xs w) := by
  rcases Nat.lt_or_ge i n with hlt | hge
  · obtain ⟨g, c, e, -, hc, -, -⟩ := h.place (by omega)
    rw [hn] at e hc
    subst e
    have hg : gx ≠ g := fun e => hne (by rw [e]; rfl)
    rcases Nat.lt_or_ge c (n + 1) with hr | hr
    · exact insert_grow g n c i gx B xss xs w h hn hlt hI hx h1 h1s hr hl hB
    · exact insert_room g n c i gx B xss xs w h hn hlt hI hx h1 h1s hg hr
  · obtain rfl : n = i := by omega
    exact insert_end v n gx B xss xs w h hn hI hx h1 hl hB
end Go.Proofs.Ytcjbiiphjahjpaa
