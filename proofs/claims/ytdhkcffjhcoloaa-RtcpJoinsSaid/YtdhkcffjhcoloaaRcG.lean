/- rtcp: words, noughts up to a word. Conditions: as each says. -/
import Derived.Test.YtdhkcffjhcoloaaApp
import Derived.Test.YtdhkcffjhcoloaaStr
import Derived.Test.YtdhkcffjhcoloaaRcC
set_option linter.unusedVariables false
namespace Go.Proofs.Ytdhkcffjhcoloaa
open Go.RowKit

/-- The bytes of a number, four of them. -/
def b4 (n : Nat) : List Nat := [n / 16777216 % 256, n / 65536 % 256, n / 256 % 256, n % 256]
theorem Try.sizeWd : (Try.prog.info? 137).map (·.size) = some 4 := by kernel_rfl
set_option maxHeartbeats 400000 in
theorem wordOf_is (n : Nat) (w : World) (h : n < 4294967296) :
    Calls Try.prog 80 #[.int .u32 n] w fun e w' => e = .returned (.agg (cellsOf (b4 n)).toArray) ∧ Only (fun _ => False) w w' := by
  have e0 : ((n / 16777216 % 256 : Nat) : Int) = (n : Int) / 16777216 := by omega
  have e1 : ((n / 65536 % 256 : Nat) : Int) = (n : Int) / 65536 % 256 := by omega
  have e2 : ((n / 256 % 256 : Nat) : Int) = (n : Int) / 256 % 256 := by omega
  have e3 : ((n % 256 : Nat) : Int) = (n : Int) % 256 := by omega
  simp only [cellsOf, b4, List.map, e0, e1, e2, e3]
  clear e0 e1 e2 e3
  go_enter Try.func80, Try.ntmps80
  go_wp2
  exact bodyPost_ret (v := .agg #[.int .u8 ((n : Int) / 16777216), .int .u8 ((n : Int) / 65536 % 256), .int .u8 ((n : Int) / 256 % 256), .int .u8 ((n : Int) % 256)]) (by simp [results, Try.results80, go_sem]) rfl ⟨rfl, (Only.refl _ _).alloc _⟩

/-- Numbers that lie apart from rows of bytes. -/
structure Nums (w : World) (v : Value) (ns : List Nat) : Prop where
  rd : Rd .u32 w v (nats ns)
  off : ∀ b, v.ownBlock = some b → ∃ cs t, w.heap[b]? = some (.cells cs t (0, 0)) ∧ t ≠ 5
theorem Nums.far {w w1 : World} {v : Value} {ns : List Nat} (h : Nums w v ns) {S : Nat → Prop} (ho : Only S w w1) (hs : ∀ b, v.ownBlock = some b → ¬ S b) : Nums w1 v ns :=
  ⟨h.rd.only ho hs, fun b hb => by
    obtain ⟨cs, t, hg, ht⟩ := h.off b hb
    exact ⟨cs, t, (ho.same b (lt_of_heap hg) (hs b hb)).trans hg, ht⟩⟩
theorem Nums.row {w : World} {v u : Value} {ns : List Nat} {B n : Nat} {xs : List Value} (h : Nums w v ns) (hr : w.ownsRow B 5 1 u n xs) : ∀ b, v.ownBlock = some b → u.ownBlock ≠ some b := by
  intro b hb hu
  obtain ⟨cs, t, hg, ht⟩ := h.off b hb
  rcases hr.2 with ⟨rfl, _⟩ | ⟨g, cap, cur, rfl, _, q, _⟩
  · simp [Value.ownBlock] at hu
  · have e1 : g = b := by simpa [Value.ownBlock] using hu
    subst e1
    rw [hg] at q
    simp only [Option.some.injEq, Obj.cells.injEq] at q
    exact ht q.2.1

/-- What is no row of bytes stays. -/
def KeepsT (w w' : World) : Prop := ∀ (b : Nat) (t : TypeId) (cs : Array Value), t ≠ 5 → Is w b t cs → Is w' b t cs
theorem KeepsT.refl (w : World) : KeepsT w w := fun _ _ _ _ h => h
theorem KeepsT.trans {w w1 w2 : World} (h : KeepsT w w1) (k : KeepsT w1 w2) : KeepsT w w2 := fun b t cs ht hi => k b t cs ht (h b t cs ht hi)
theorem KeepsT.pure {w w1 : World} (h : Only (fun _ => False) w w1) : KeepsT w w1 := fun b t cs _ hi => hi.only h (by simp)
theorem KeepsT.row {w w1 : World} {B n : Nat} {v : Value} {xs : List Value} (hr : w.ownsRow B 5 1 v n xs) (h : Only (fun k => v.ownBlock = some k) w w1) : KeepsT w w1 := fun b t cs ht hi => hi.only h (row_apart hi hr (fun e => ht e.symm))

set_option maxRecDepth 100000 in
set_option maxHeartbeats 2000000 in
theorem appended_is (w0 w : World) (v vl : Value) (out ns : List Nat) (hacc : Acc w0 v out w) (hn : Nums w vl ns) (hb : ∀ n ∈ ns, n < 4294967296) (hl : out.length ≤ 100000) (hns : ns.length ≤ 10000) :
    Calls Try.prog 56 #[v, vl] w fun e w' => ∃ v', e = .returned v' ∧ Acc w0 v' (out ++ ns.flatMap b4) w' ∧ (Only (fun k => w0.heap.size ≤ k) w w' ∧ KeepsT w w') := by
  obtain ⟨A0, c0, rfl⟩ := hacc.slice
  obtain ⟨Al, cl, hvl, hlc, -⟩ := hn.rd
  rw [nats_length] at hvl hlc
  subst hvl
  have HA := Lib.hid hacc
  have HN := Lib.hid hn
  have HB := Lib.hid hb
  obtain ⟨L, hL⟩ : ∃ L, ns.length = L := ⟨_, rfl⟩
  rw [hL] at hns hlc ⊢ HN
  have HL := Lib.hid hL
  have HOL := Lib.hid hl
  clear hacc hn hb hL hl
  go_enter Try.func56, Try.ntmps56
  go_wp2
  go_loopw [0, 10] (fun s0 s10 wr => ∃ k : Nat, k ≤ L ∧ s10 = .int .i64 k ∧ Acc w0 s0 (out ++ (ns.take k).flatMap b4) wr ∧ Nums wr (.slice Al L cl) ns ∧ (Only (fun k => w0.heap.size ≤ k) w wr ∧ KeepsT w wr)) (fun _ s10 _ => L - (intOf s10).toNat)
  case atStart => exact ⟨0, by omega, rfl, by simpa using HA.out, HN.out, Only.refl _ _, KeepsT.refl _⟩
  case round =>
    obtain ⟨k, hk, rfl, hacc, hnn, ho⟩ := hrel
    obtain ⟨cur, hcur⟩ : ∃ cur, out ++ (ns.take k).flatMap b4 = cur := ⟨_, rfl⟩
    rw [hcur] at hacc
    have HCUR := Lib.hid hcur
    clear hcur
    obtain ⟨A1, c1, rfl⟩ := hacc.slice
    have H1 := Lib.hid hacc
    have H2 := Lib.hid hnn
    have H3 := Lib.hid ho
    clear hacc hnn ho
    by_cases hkl : k < L
    · have hkb : k < ns.length := by rw [HL.out]; exact hkl
      have hx : ns[k] < 4294967296 := HB.out _ (List.getElem_mem hkb)
      have hrd : ∃ g o, Al = some ⟨g, o, none⟩ ∧ wr.cell? ⟨g, o + k, none⟩ = some (.int .u32 (ns[k] : Nat)) := by
        obtain ⟨A', c', e, _, hh⟩ := H2.out.rd
        rw [nats_length] at e
        injection e with e1 e2 e3
        subst e1
        obtain ⟨g, o, rfl, hc⟩ := hh (by rw [nats_length]; omega)
        refine ⟨g, o, rfl, ?_⟩
        have := hc k (by rw [nats_length]; exact hkb)
        simpa [nats] using this
      obtain ⟨g, o, rfl, qc⟩ := hrd
      have HT := Lib.hid (show out ++ (ns.take (k + 1)).flatMap b4 = cur ++ b4 ns[k] from by rw [← HCUR.out, List.take_succ_eq_append_getElem hkb, List.flatMap_append, List.append_assoc]; simp)
      have HLX := Lib.hid (show cur.length ≤ 200000 from by
        rw [← HCUR.out]
        have h4 : ∀ l : List Nat, (l.flatMap b4).length = 4 * l.length := by
          intro l
          induction l with
          | nil => rfl
          | cons a l ih => rw [List.flatMap_cons, List.length_append, ih, List.length_cons]; simp [b4]; omega
        rw [List.length_append, h4, List.length_take]
        have := HOL.out
        omega)
      have HB4 := Lib.hid (show (b4 ns[k]).length = 4 from rfl)
      generalize ns[k] = n at *
      have hkI : (k : Int) < (L : Int) := by omega
      have V1 := Lib.hid (show (cellsOf (b4 n)).toArray.all (·.oneCell') = true from by simp [cellsOf, b4, Value.oneCell'])
      have HSZ := Lib.hid (show (cellsOf (b4 n)).toArray.size = 4 from rfl)
      clear hkb
      go_wp2_with (first
        | (go_at_call 80; refine (wordOf_is n _ hx).mono ?_; rintro e w1 ⟨rfl, ho1⟩; have O1 := Lib.hid ho1; clear ho1)
        | (refine wpList_store_is rfl 137 _ _ rfl w1.heap.size (cellsOf (b4 n)).toArray rfl rfl 137 #[.int .u8 0, .int .u8 0, .int .u8 0, .int .u8 0] (Is.made _ _ _) Try.sizeWd rfl V1.out ?_; intro w2 hi2 ho2; have O2 := Lib.hid (only_more O1.out (only_stored ho2)); have I2 := Lib.hid hi2; clear hi2 ho2)
        | (at_builtin; refine wpList_acc_src rfl _ _ rfl (H1.out.go O2.out) rfl _ (b4 n) rfl (src_is I2.out rfl (by decide)) (by have := HLX.out; rw [HB4.out]; omega) ?_; intro v3 w3 hacc3 hg3))
      have OW := H1.out.go O2.out
      refine ⟨⟨k + 1, by omega, by go_num, by rw [HT.out]; exact hacc3, ?_, ?_⟩, by simp [intOf]; omega⟩
      · have h2 := H2.out.far O2.out (by simp)
        exact h2.far hg3 (fun b hb hv => h2.row OW.own b hb hv)
      · exact ⟨H3.out.1.trans ((O2.out.mono (fun _ _ h => h.elim)).trans hg3 (fun i hi e => (OW.own.lt i e).1)) (fun _ _ e => e), (H3.out.2.trans (KeepsT.pure O2.out)).trans (KeepsT.row OW.own hg3)⟩
    · have hkl : k = L := by omega
      subst hkl
      go_wp2
      go_ret
      have e : ns.take k = ns := List.take_of_length_le (by rw [HL.out]; exact Nat.le_refl _)
      have hc := HCUR.out
      rw [e] at hc
      exact ⟨_, rfl, by rw [hc]; exact H1.out, H3.out⟩
end Go.Proofs.Ytdhkcffjhcoloaa
