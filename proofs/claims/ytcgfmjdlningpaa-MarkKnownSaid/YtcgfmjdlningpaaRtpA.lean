/- The small calls of package rtp: numbers of bytes, and bytes of numbers. Conditions: as each says. -/
import Derived.Test.YtcgfmjdlningpaaBase
import Derived.Laws.BitsAllLaws
import Derived.Laws.Rows
set_option linter.unusedVariables false
namespace Go.Proofs.Ytcgfmjdlningpaa
open Go.RowKit

/-- What a call leaves that writes nothing that was there. -/
abbrev Pure (w w' : World) : Prop := Only (fun _ => False) w w'

/-- The number of bytes, the greatest first. -/
def be (bs : List Nat) : Nat := bs.foldl (fun n x => n * 256 + x) 0
theorem be2 (x y : Nat) : be [x, y] = x * 256 + y := by simp [be]
theorem be4 (x y z t : Nat) : be [x, y, z, t] = x * 16777216 + y * 65536 + z * 256 + t := by simp [be]; omega
theorem or_add (k m a b : Nat) (hm : m = 2 ^ k) (h : b < m) : a * m ||| b = a * m + b := by
  subst hm
  rw [Nat.mul_comm]
  exact (Nat.two_pow_add_eq_or_of_lt h a).symm

theorem number_eq (a b c d : Nat) (ha : a < 256) (hb : b < 256) (hc : c < 256) (hd : d < 256) :
    bits .or .u32 (bits .or .u32 (bits .or .u32 ((a : Int) * 16777216) ((b : Int) * 65536)) ((c : Int) * 256)) (d : Int) = ((be [a, b, c, d] : Nat) : Int) := by
  rw [be4]
  have e1 : (a : Int) * 16777216 = ((a * 16777216 : Nat) : Int) := by omega
  have e2 : (b : Int) * 65536 = ((b * 65536 : Nat) : Int) := by omega
  have e3 : (c : Int) * 256 = ((c * 256 : Nat) : Int) := by omega
  rw [e1, e2, e3, u32_or_nat _ _ (by omega) (by omega), or_add 24 16777216 a _ (by decide) (by omega)]
  have e4 : a * 16777216 + b * 65536 = (a * 256 + b) * 65536 := by omega
  rw [e4, u32_or_nat _ _ (by omega) (by omega), or_add 16 65536 _ _ (by decide) (by omega)]
  clear e1 e2 e3 e4
  have e6 : ((a * 256 + b) * 256 + c) * 256 ||| d = a * 16777216 + b * 65536 + c * 256 + d := by
    rw [or_add 8 256 _ _ (by decide) (by omega)]
    omega
  have E6 := Lib.hid e6
  clear e6
  have e5 : (a * 256 + b) * 65536 + c * 256 = ((a * 256 + b) * 256 + c) * 256 := by omega
  rw [e5, u32_or_nat _ _ (by omega) (by omega), E6.out]
  clear E6 e5
  omega

set_option maxRecDepth 100000 in
set_option maxHeartbeats 400000 in
theorem number_is (a b c d : Nat) (w : World) (ha : a < 256) (hb : b < 256) (hc : c < 256) (hd : d < 256) :
    Calls Try.prog 89 #[.agg #[.int .u8 a, .int .u8 b, .int .u8 c, .int .u8 d]] w fun e w' => e = .returned (.int .u32 (be [a, b, c, d] : Nat)) ∧ Pure w w' := by
  have HE := Lib.hid (number_eq a b c d ha hb hc hd)
  go_enter Try.func89, Try.ntmps89
  go_wp2
  go_ret
  refine ⟨?_, (Only.refl _ _).alloc _⟩
  rw [← HE.out]
  rfl

/-- The bytes of a number, four of them. -/
def b4 (n : Nat) : List Nat := [n / 16777216 % 256, n / 65536 % 256, n / 256 % 256, n % 256]

set_option maxRecDepth 100000 in
set_option maxHeartbeats 400000 in
theorem wordOf_is (n : Nat) (w : World) (h : n < 4294967296) :
    Calls Try.prog 85 #[.int .u32 n] w fun e w' => e = .returned (.agg (cellsOf (b4 n)).toArray) ∧ Pure w w' := by
  have e0 : ((n / 16777216 % 256 : Nat) : Int) = (n : Int) / 16777216 := by omega
  have e1 : ((n / 65536 % 256 : Nat) : Int) = (n : Int) / 65536 % 256 := by omega
  have e2 : ((n / 256 % 256 : Nat) : Int) = (n : Int) / 256 % 256 := by omega
  have e3 : ((n % 256 : Nat) : Int) = (n : Int) % 256 := by omega
  simp only [cellsOf, b4, List.map, e0, e1, e2, e3]
  clear e0 e1 e2 e3
  go_enter Try.func85, Try.ntmps85
  go_wp2
  exact bodyPost_ret (v := .agg #[.int .u8 ((n : Int) / 16777216), .int .u8 ((n : Int) / 65536 % 256), .int .u8 ((n : Int) / 256 % 256), .int .u8 ((n : Int) % 256)]) (by simp [results, Try.results85, go_sem]) rfl ⟨rfl, (Only.refl _ _).alloc _⟩

theorem Try.sizeWord : (Try.prog.info? 129).map (·.size) = some 4 := by kernel_rfl

set_option maxRecDepth 100000 in
set_option maxHeartbeats 400000 in
theorem numberOf4 (x y z t g o c : Nat) (w : World) (hx : x < 256) (hy : y < 256) (hz : z < 256) (ht : t < 256) (h : ∀ j u, (cellsOf [x, y, z, t])[j]? = some u → w.cell? ((⟨g, o, none⟩ : Addr).add j) = some u) :
    Calls Try.prog 55 #[.slice (some ⟨g, o, none⟩) 4 c] w fun e w' => e = .returned (.int .u32 (be [x, y, z, t] : Nat)) ∧ Pure w w' := by
  have HS := Lib.hid (show ∀ j u, (cellsOf [x, y, z, t])[j]? = some u → (w.alloc (.cells #[.int .u8 0, .int .u8 0, .int .u8 0, .int .u8 0] 129)).cell? ((⟨g, o, none⟩ : Addr).add j) = some u from fun j u hu => Lib.cell?_alloc_some _ (h j u hu))
  clear h
  go_enter Try.func55, Try.ntmps55
  go_wp2_with (refine wpList_copy_splice (o := ⟨some 9, _, _, _, _, _⟩) rfl (.tmp 7) (.tmp 8) 22 22 rfl 5 Try.underlying22 Try.sizeU8 _ _ _ _ _ _ rfl rfl w.heap.size 0 [.int .u8 0, .int .u8 0, .int .u8 0, .int .u8 0] 129 (Is.made _ _ _) (cellsOf [x, y, z, t]) rfl (fun _ => ⟨rfl, _, rfl, HS.out⟩) (by simp [cellsOf]) (cellsOf_one _) w.heap.size w ((Below.refl _ _).alloc (Nat.le_refl _) _) (Nat.le_refl _) ?_)
  intro w1 h1 hb1
  have h2 : w1.heap[w.heap.size]? = some (.cells (cellsOf [x, y, z, t]).toArray 129 (0, 0)) := by rw [h1.out]; rfl
  have ho : Pure w w1 := ⟨hb1.os, hb1.tape, hb1.output, hb1.size, fun k hk _ => hb1.block k hk⟩
  have H2 := Lib.hid h2
  have HO := Lib.hid ho
  clear h1 h2 hb1 ho
  go_wp2_with (first | (refine wpList_load_row (o := ⟨some 10, _, _, _, _, _⟩) rfl _ _ rfl w.heap.size rfl _ _ _ _ H2.out Try.underlying129 rfl Try.sizeWord ?_) | (go_at_call 89; refine (number_is x y z t _ hx hy hz ht).mono ?_; rintro e w' ⟨rfl, ho2⟩))
  go_ret
  exact ⟨rfl, HO.out.trans ho2 (fun _ _ e => e)⟩

set_option maxRecDepth 100000 in
set_option maxHeartbeats 400000 in
theorem numberOf2 (x y g o c : Nat) (w : World) (hx : x < 256) (hy : y < 256) (h : ∀ j u, (cellsOf [x, y])[j]? = some u → w.cell? ((⟨g, o, none⟩ : Addr).add j) = some u) :
    Calls Try.prog 55 #[.slice (some ⟨g, o, none⟩) 2 c] w fun e w' => e = .returned (.int .u32 (be [x, y] : Nat)) ∧ Pure w w' := by
  have HS := Lib.hid (show ∀ j u, (cellsOf [x, y])[j]? = some u → (w.alloc (.cells #[.int .u8 0, .int .u8 0, .int .u8 0, .int .u8 0] 129)).cell? ((⟨g, o, none⟩ : Addr).add j) = some u from fun j u hu => Lib.cell?_alloc_some _ (h j u hu))
  clear h
  go_enter Try.func55, Try.ntmps55
  go_wp2_with (refine wpList_copy_splice (o := ⟨some 9, _, _, _, _, _⟩) rfl (.tmp 7) (.tmp 8) 22 22 rfl 5 Try.underlying22 Try.sizeU8 _ _ _ _ _ _ rfl rfl w.heap.size 2 [.int .u8 0, .int .u8 0, .int .u8 0, .int .u8 0] 129 (Is.made _ _ _) (cellsOf [x, y]) rfl (fun _ => ⟨rfl, _, rfl, HS.out⟩) (by simp [cellsOf]) (cellsOf_one _) w.heap.size w ((Below.refl _ _).alloc (Nat.le_refl _) _) (Nat.le_refl _) ?_)
  intro w1 h1 hb1
  have h2 : w1.heap[w.heap.size]? = some (.cells (cellsOf [0, 0, x, y]).toArray 129 (0, 0)) := by rw [h1.out]; rfl
  have ho : Pure w w1 := ⟨hb1.os, hb1.tape, hb1.output, hb1.size, fun k hk _ => hb1.block k hk⟩
  have H2 := Lib.hid h2
  have HO := Lib.hid ho
  clear h1 h2 hb1 ho
  go_wp2_with (first | (refine wpList_load_row (o := ⟨some 10, _, _, _, _, _⟩) rfl _ _ rfl w.heap.size rfl _ _ _ _ H2.out Try.underlying129 rfl Try.sizeWord ?_) | (go_at_call 89; refine (number_is 0 0 x y _ (by decide) (by decide) hx hy).mono ?_; rintro e w' ⟨rfl, ho2⟩))
  go_ret
  refine ⟨?_, HO.out.trans ho2 (fun _ _ e => e)⟩
  show Ending.returned (.int .u32 ((be [0, 0, x, y] : Nat) : Int)) = _
  rw [show be [0, 0, x, y] = be [x, y] by simp [be]]

end Go.Proofs.Ytcgfmjdlningpaa
