/- reorder's law: a packet by its number; the example's buffers. Conditions: as each says. -/
import Derived.Test.YtdcclighccejhaaRoQ
import Derived.Test.YtdcclighccejhaaPkR
set_option linter.unusedVariables false
set_option linter.unusedSimpArgs false
namespace Go.Proofs.Ytdcclighccejhaa
open Go Go.RowKit

def pkN (n : Nat) : Pk := ⟨false, 0, n % 65536, 0, 0, [], false, 0, [], [n % 256, 1], 0⟩
def GotN (n : Nat) (w : World) (e : Ending) (w' : World) : Prop :=
  ∃ g, e = .returned (.agg ((pkN n).cls (.slice none 0 0) (.slice none 0 0) (.slice (some ⟨g, 0, none⟩) 2 2))) ∧ w.heap.size ≤ g ∧ Is w' g 5 #[.int .u8 ((n % 256 : Nat) : Int), .int .u8 1] ∧ Only (fun _ => False) w w'
theorem GotN.src {g n : Nat} {w : World} (h : Is w g 5 #[.int .u8 ((n % 256 : Nat) : Int), .int .u8 1]) : Src w (.slice (some ⟨g, 0, none⟩) 2 2) (pkN n).pay := by
  refine .inr ⟨⟨g, 0, none⟩, 2, rfl, Nat.le_refl _, fun j u hj => ?_⟩
  rw [add_plain, Nat.zero_add, h.cell]
  match j, hj with
  | 0, hj => simpa [pkN, cellsOf] using hj
  | 1, hj => simpa [pkN, cellsOf] using hj
  | j + 2, hj => simp [pkN, cellsOf] at hj
set_option maxRecDepth 20000 in
set_option maxHeartbeats 1000000 in
theorem packet_is (n : Nat) (w : World) : Calls Try.prog 19 #[.int .u64 (n : Int)] w (GotN n w) := by
  have e1 : IntKind.u16.wrap (n : Int) = ((n % 65536 : Nat) : Int) := by rw [IntKind.wrap_u16]; omega
  have e2 : IntKind.u8.wrap (n : Int) = ((n % 256 : Nat) : Int) := by rw [IntKind.wrap_u8]; omega
  have HV := Lib.hid ((pkN n).cls_one (vc := .slice none 0 0) (ve := .slice none 0 0) (vp := .slice (some ⟨w.heap.size + 1, 0, none⟩) 2 2) ⟨_, _, _, rfl⟩ ⟨_, _, _, rfl⟩ ⟨_, _, _, rfl⟩)
  go_enter Try.func19, Try.ntmps19
  go_wp2_with (refine wpList_store_is (o := ⟨none, _, _, _, _, _⟩) rfl 42 _ _ rfl w.heap.size ((pkN n).cls (.slice none 0 0) (.slice none 0 0) (.slice (some ⟨w.heap.size + 1, 0, none⟩) 2 2)) rfl rfl 42 zeroPk ((Is.made w _ zeroPk).alloc _) Try.sizePq rfl HV.out ?_; intro w4 hi4 ho4)
  have hI : Is ((w.alloc (.cells zeroPk 42)).alloc (.cells #[.int .u8 ((n % 256 : Nat) : Int), .int .u8 1] 5)) (w.heap.size + 1) 5 #[.int .u8 ((n % 256 : Nat) : Int), .int .u8 1] := by
    have := Is.made (w.alloc (.cells zeroPk 42)) 5 #[.int .u8 ((n % 256 : Nat) : Int), .int .u8 1]
    rw [World.size_alloc] at this
    exact this
  refine bodyPost_ret (res_one Try.results19 _ w4 w.heap.size 42 ((pkN n).cls (.slice none 0 0) (.slice none 0 0) (.slice (some ⟨w.heap.size + 1, 0, none⟩) 2 2)) _ rfl hi4 Try.underlying42 rfl Try.sizePq) rfl ⟨_, rfl, by omega, hI.only ho4 (by omega), (((Only.refl _ w).alloc _).alloc _).trans ho4 (fun i hi e => by omega)⟩
/-! The chapter's example. -/
def wkN (k : Nat) : Nat := [7, 9, 8, 12, 14, 15].getD k 0
def wkAt (k : Nat) : Nat := [0, 0, 1, 2, 3, 3].getD k 0
def wkMany (k : Nat) : Nat := [1, 0, 2, 0, 0, 2].getD k 0
def wkX (k : Nat) : Wt := ⟨wkN k, wkAt k, pkN (wkN k)⟩
def wkM : Nat → Bf
  | 0 => Bf.new 2 5
  | k + 1 => ((wkM k).ins (wkX k)).gone (((wkM k).ins (wkX k)).goes (wkM k).much)
/-- The numbers of those that wait, and the last one that went. -/
def Bf.sum (m : Bf) : Bool × Nat × List (Nat × Nat) := (m.some, m.last, m.ws.map fun x => (x.n, x.came))
theorem wk_sum : (wkM 1).sum = (true, 7, []) ∧ (wkM 2).sum = (true, 7, [(9, 0)]) ∧ (wkM 3).sum = (true, 9, []) ∧ (wkM 4).sum = (true, 9, [(12, 2)]) ∧ (wkM 5).sum = (true, 9, [(12, 2), (14, 3)]) ∧ (wkM 6).sum = (true, 12, [(14, 3), (15, 3)]) := by
  refine ⟨?_, ?_, ?_, ?_, ?_, ?_⟩ <;> rfl
theorem wk_out : (itemsN ((wkM 0).ins (wkX 0)).nx (((wkM 0).ins (wkX 0)).ws.take (((wkM 0).ins (wkX 0)).goes (wkM 0).much))) = [(false, 7, 7)] := by rfl
end Go.Proofs.Ytdcclighccejhaa
