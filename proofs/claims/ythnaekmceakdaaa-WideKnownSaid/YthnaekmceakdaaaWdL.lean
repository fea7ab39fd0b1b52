/- WideKnown's walk. Conditions: none. -/
import Derived.Test.YthnaekmceakdaaaWdJ
import Derived.Test.YthnaekmceakdaaaWdG
set_option linter.unusedVariables false
namespace Go.Proofs.Ythnaekmceakdaaa
open Go.RowKit

theorem nexts_any (z : Int) (v : Value) (xs : List Nat) (look cut : Int) (w : World) (hr : Rd .u32 w v (nats xs)) (hx : ∀ x ∈ xs, x < 4294967296) (hlook : 0 ≤ look ∧ look < 4294967296) (hcut : 0 ≤ cut ∧ cut < 18446744073709551616) (hl : xs.length ≤ 12) :
    Calls Try.prog 3 #[.int .i64 z, v, .int .u32 look, .int .u64 cut] w (Says (.bool true) w) := by
  obtain ⟨l, rfl⟩ : ∃ l : Nat, look = (l : Int) := ⟨look.toNat, by omega⟩
  obtain ⟨c, rfl⟩ : ∃ l : Nat, cut = (l : Int) := ⟨cut.toNat, by omega⟩
  exact nexts_walk z v xs l c w hr hx (by omega) (by omega) (by omega)
theorem circles_any (z a b : Int) (w : World) (ha : 0 ≤ a ∧ a < 4294967296) (hb : 0 ≤ b ∧ b < 4294967296) :
    Calls Try.prog 4 #[.int .i64 z, .int .u32 a, .int .u32 b] w (Says (.bool true) w) := by
  obtain ⟨l, rfl⟩ : ∃ l : Nat, a = (l : Int) := ⟨a.toNat, by omega⟩
  obtain ⟨c, rfl⟩ : ∃ l : Nat, b = (l : Int) := ⟨b.toNat, by omega⟩
  exact circles_walk z l c w (by omega) (by omega)
theorem u32_any (z : Int) : 0 ≤ IntKind.u32.wrap z ∧ IntKind.u32.wrap z < 4294967296 := by rw [IntKind.wrap_u32]; omega
theorem u64_any (z : Int) : 0 ≤ IntKind.u64.wrap z ∧ IntKind.u64.wrap z < 18446744073709551616 := by rw [IntKind.wrap_u64]; omega
/-- A row of numbers that a literal laid. -/
theorem rd_lit {w : World} {g n : Nat} (t : TypeId) (xs : List Nat) (h : Is w g t (xs.map fun (x : Nat) => Value.int .u32 (x : Int)).toArray) (hn : n = xs.length) : Rd .u32 w (.slice (some ⟨g, 0, none⟩) n n) (nats xs) := by
  subst hn
  refine ⟨_, xs.length, by rw [nats_length], by rw [nats_length]; exact Nat.le_refl _, fun _ => ⟨g, 0, rfl, fun j hj => ?_⟩⟩
  have hj' : j < xs.length := by rwa [nats_length] at hj
  rw [Nat.zero_add, h.cell]
  simp [nats, hj']
theorem rd_cut {w : World} {g n k : Nat} (t : TypeId) (xs : List Nat) (h : Is w g t (xs.map fun (x : Nat) => Value.int .u32 (x : Int)).toArray) (hn : n = xs.length - k) : Rd .u32 w (.slice (some ⟨g, k, none⟩) n n) (nats (xs.drop k)) := by
  subst hn
  refine ⟨some ⟨g, k, none⟩, xs.length - k, by rw [nats_length, List.length_drop], by rw [nats_length, List.length_drop]; exact Nat.le_refl _, fun _ => ⟨g, k, rfl, fun j hj => ?_⟩⟩
  have hj' : j < xs.length - k := by rwa [nats_length, List.length_drop] at hj
  have hk : k + j < xs.length := by omega
  rw [h.cell]
  simp [nats, hk]
/-- The numbers of the chapter's bounds, and the digits. -/
def kL : List Nat := [0, 1, 2, 128, 32767, 32768, 32769, 65535, 65536, 2147483648, 2147483647, 4294967295]
def kD : List Int := [-1, 0, 1, 2, 8, 15, 16, 31, 32, 33]
def kLC : Array Value := (kL.map fun (x : Nat) => Value.int .u32 (x : Int)).toArray
def kDC : Array Value := (kD.map fun x => Value.int .i64 x).toArray
theorem kL_at (i : Nat) (h : i < 12) : ∃ p, p < 4294967296 ∧ kLC[i]? = some (.int .u32 ((p : Nat) : Int)) := by
  have : i = 0 ∨ i = 1 ∨ i = 2 ∨ i = 3 ∨ i = 4 ∨ i = 5 ∨ i = 6 ∨ i = 7 ∨ i = 8 ∨ i = 9 ∨ i = 10 ∨ i = 11 := by omega
  refine ⟨kL.getD i 0, ?_⟩
  rcases this with rfl | rfl | rfl | rfl | rfl | rfl | rfl | rfl | rfl | rfl | rfl | rfl <;> exact ⟨by decide, rfl⟩
theorem kD_at (i : Nat) (h : i < 10) : ∃ p : Int, (-9223372036854775808 ≤ p ∧ p ≤ 9223372036854775807) ∧ kDC[i]? = some (.int .i64 p) := by
  have : i = 0 ∨ i = 1 ∨ i = 2 ∨ i = 3 ∨ i = 4 ∨ i = 5 ∨ i = 6 ∨ i = 7 ∨ i = 8 ∨ i = 9 := by omega
  refine ⟨kD.getD i 0, ?_⟩
  rcases this with rfl | rfl | rfl | rfl | rfl | rfl | rfl | rfl | rfl | rfl <;> exact ⟨by decide, rfl⟩
theorem kL_lt : ∀ x ∈ kL, x < 4294967296 := by decide
theorem Only.and {w w1 w2 : World} (h : Only (fun _ => False) w w1) (k : Only (fun _ => False) w1 w2) : Only (fun _ => False) w w2 := h.trans k (fun _ _ e => e)
theorem pow_u32 (n : Nat) (h : n < 4) : IntKind.u32.wrap ((2 : Int) ^ n) = ((2 ^ n : Nat) : Int) ∧ 2 ^ n ≤ 8 := by
  have : n = 0 ∨ n = 1 ∨ n = 2 ∨ n = 3 := by omega
  rcases this with rfl | rfl | rfl | rfl <;> decide

def codeRegion (n : Nat) : Code → Option Code
  | .region k ops d => if k = n then some (.region k ops d) else none
  | .loop c => codeRegion n c
  | .seq a b => match codeRegion n a with
    | some c => some c
    | none => codeRegion n b
  | .block _ c => codeRegion n c
  | .scope c => codeRegion n c
  | .cond _ a b => match codeRegion n a with
    | some c => some c
    | none => codeRegion n b
  | _ => none
def known26_A : List (List Nat) := ([] :: [] :: [] :: [1, 2] :: [3, 1, 2] :: [] :: [] :: [5, 6] :: [7, 5, 6] :: [] :: [] :: [] :: [10, 11] :: [12, 10, 11] :: [9, 13, 12, 10, 11] :: [14, 9, 13, 12, 10, 11] :: [] :: [] :: [16, 17] :: [18, 16, 17] :: (4 :: 8 :: 15 :: 19 :: 3 :: 1 :: 2 :: 7 :: 5 :: 6 :: 14 :: 9 :: 13 :: 12 :: 10 :: 11 :: 18 :: 16 :: 17 :: []) :: [] :: [] :: [21, 22] :: [23, 21, 22] :: [] :: [] :: [25, 26] :: [27, 25, 26] :: [28, 27, 25, 26] :: [29, 28, 27, 25, 26] :: (0 :: 20 :: 24 :: 30 :: 4 :: 8 :: 15 :: 19 :: 3 :: 1 :: 2 :: 7 :: 5 :: 6 :: 14 :: 9 :: 13 :: 12 :: 10 :: 11 :: 18 :: 16 :: 17 :: 23 :: 21 :: 22 :: 29 :: 28 :: 27 :: 25 :: 26 :: []) :: (31 :: 0 :: 20 :: 24 :: 30 :: 4 :: 8 :: 15 :: 19 :: 3 :: 1 :: 2 :: 7 :: 5 :: 6 :: 14 :: 9 :: 13 :: 12 :: 10 :: 11 :: 18 :: 16 :: 17 :: 23 :: 21 :: 22 :: 29 :: 28 :: 27 :: 25 :: 26 :: []) :: (32 :: 31 :: 0 :: 20 :: 24 :: 30 :: 4 :: 8 :: 15 :: 19 :: 3 :: 1 :: 2 :: 7 :: 5 :: 6 :: 14 :: 9 :: 13 :: 12 :: 10 :: 11 :: 18 :: 16 :: 17 :: 23 :: 21 :: 22 :: 29 :: 28 :: 27 :: 25 :: 26 :: []) :: (33 :: 32 :: 31 :: 0 :: 20 :: 24 :: 30 :: 4 :: 8 :: 15 :: 19 :: 3 :: 1 :: 2 :: 7 :: 5 :: 6 :: 14 :: 9 :: 13 :: 12 :: 10 :: 11 :: 18 :: 16 :: 17 :: 23 :: 21 :: 22 :: 29 :: 28 :: 27 :: 25 :: 26 :: []) :: (33 :: 32 :: 31 :: 0 :: 20 :: 24 :: 30 :: 4 :: 8 :: 15 :: 19 :: 3 :: 1 :: 2 :: 7 :: 5 :: 6 :: 14 :: 9 :: 13 :: 12 :: 10 :: 11 :: 18 :: 16 :: 17 :: 23 :: 21 :: 22 :: 29 :: 28 :: 27 :: 25 :: 26 :: []) :: (33 :: 32 :: 31 :: 0 :: 20 :: 24 :: 30 :: 4 :: 8 :: 15 :: 19 :: 3 :: 1 :: 2 :: 7 :: 5 :: 6 :: 14 :: 9 :: 13 :: 12 :: 10 :: 11 :: 18 :: 16 :: 17 :: 23 :: 21 :: 22 :: 29 :: 28 :: 27 :: 25 :: 26 :: []) :: (35 :: 36 :: 33 :: 32 :: 31 :: 0 :: 20 :: 24 :: 30 :: 4 :: 8 :: 15 :: 19 :: 3 :: 1 :: 2 :: 7 :: 5 :: 6 :: 14 :: 9 :: 13 :: 12 :: 10 :: 11 :: 18 :: 16 :: 17 :: 23 :: 21 :: 22 :: 29 :: 28 :: 27 :: 25 :: 26 :: []) :: (37 :: 33 :: 35 :: 36 :: 32 :: 31 :: 0 :: 20 :: 24 :: 30 :: 4 :: 8 :: 15 :: 19 :: 3 :: 1 :: 2 :: 7 :: 5 :: 6 :: 14 :: 9 :: 13 :: 12 :: 10 :: 11 :: 18 :: 16 :: 17 :: 23 :: 21 :: 22 :: 29 :: 28 :: 27 :: 25 :: 26 :: []) :: (33 :: 32 :: 31 :: 0 :: 20 :: 24 :: 30 :: 4 :: 8 :: 15 :: 19 :: 3 :: 1 :: 2 :: 7 :: 5 :: 6 :: 14 :: 9 :: 13 :: 12 :: 10 :: 11 :: 18 :: 16 :: 17 :: 23 :: 21 :: 22 :: 29 :: 28 :: 27 :: 25 :: 26 :: []) :: (33 :: 32 :: 31 :: 0 :: 20 :: 24 :: 30 :: 4 :: 8 :: 15 :: 19 :: 3 :: 1 :: 2 :: 7 :: 5 :: 6 :: 14 :: 9 :: 13 :: 12 :: 10 :: 11 :: 18 :: 16 :: 17 :: 23 :: 21 :: 22 :: 29 :: 28 :: 27 :: 25 :: 26 :: []) :: (39 :: 40 :: 33 :: 32 :: 31 :: 0 :: 20 :: 24 :: 30 :: 4 :: 8 :: 15 :: 19 :: 3 :: 1 :: 2 :: 7 :: 5 :: 6 :: 14 :: 9 :: 13 :: 12 :: 10 :: 11 :: 18 :: 16 :: 17 :: 23 :: 21 :: 22 :: 29 :: 28 :: 27 :: 25 :: 26 :: []) :: (41 :: 33 :: 39 :: 40 :: 32 :: 31 :: 0 :: 20 :: 24 :: 30 :: 4 :: 8 :: 15 :: 19 :: 3 :: 1 :: 2 :: 7 :: 5 :: 6 :: 14 :: 9 :: 13 :: 12 :: 10 :: 11 :: 18 :: 16 :: 17 :: 23 :: 21 :: 22 :: 29 :: 28 :: 27 :: 25 :: 26 :: []) :: (34 :: 38 :: 42 :: 33 :: 32 :: 31 :: 0 :: 20 :: 24 :: 30 :: 4 :: 8 :: 15 :: 19 :: 3 :: 1 :: 2 :: 7 :: 5 :: 6 :: 14 :: 9 :: 13 :: 12 :: 10 :: 11 :: 18 :: 16 :: 17 :: 23 :: 21 :: 22 :: 29 :: 28 :: 27 :: 25 :: 26 :: 37 :: 35 :: 36 :: 41 :: 39 :: 40 :: []) :: (43 :: 33 :: 34 :: 38 :: 42 :: 32 :: 31 :: 0 :: 20 :: 24 :: 30 :: 4 :: 8 :: 15 :: 19 :: 3 :: 1 :: 2 :: 7 :: 5 :: 6 :: 14 :: 9 :: 13 :: 12 :: 10 :: 11 :: 18 :: 16 :: 17 :: 23 :: 21 :: 22 :: 29 :: 28 :: 27 :: 25 :: 26 :: 37 :: 35 :: 36 :: 41 :: 39 :: 40 :: []) :: (33 :: 44 :: 32 :: 31 :: 0 :: 20 :: 24 :: 30 :: 4 :: 8 :: 15 :: 19 :: 3 :: 1 :: 2 :: 7 :: 5 :: 6 :: 14 :: 9 :: 13 :: 12 :: 10 :: 11 :: 18 :: 16 :: 17 :: 23 :: 21 :: 22 :: 29 :: 28 :: 27 :: 25 :: 26 :: 43 :: 34 :: 38 :: 42 :: 37 :: 35 :: 36 :: 41 :: 39 :: 40 :: []) :: (45 :: 43 :: 33 :: 44 :: 32 :: 31 :: 0 :: 20 :: 24 :: 30 :: 4 :: 8 :: 15 :: 19 :: 3 :: 1 :: 2 :: 7 :: 5 :: 6 :: 14 :: 9 :: 13 :: 12 :: 10 :: 11 :: 18 :: 16 :: 17 :: 23 :: 21 :: 22 :: 29 :: 28 :: 27 :: 25 :: 26 :: 34 :: 38 :: 42 :: 37 :: 35 :: 36 :: 41 :: 39 :: 40 :: []) :: (46 :: 45 :: 43 :: 33 :: 44 :: 32 :: 31 :: 0 :: 20 :: 24 :: 30 :: 4 :: 8 :: 15 :: 19 :: 3 :: 1 :: 2 :: 7 :: 5 :: 6 :: 14 :: 9 :: 13 :: 12 :: 10 :: 11 :: 18 :: 16 :: 17 :: 23 :: 21 :: 22 :: 29 :: 28 :: 27 :: 25 :: 26 :: 34 :: 38 :: 42 :: 37 :: 35 :: 36 :: 41 :: 39 :: 40 :: []) :: (46 :: 45 :: 43 :: 33 :: 44 :: 32 :: 31 :: 0 :: 20 :: 24 :: 30 :: 4 :: 8 :: 15 :: 19 :: 3 :: 1 :: 2 :: 7 :: 5 :: 6 :: 14 :: 9 :: 13 :: 12 :: 10 :: 11 :: 18 :: 16 :: 17 :: 23 :: 21 :: 22 :: 29 :: 28 :: 27 :: 25 :: 26 :: 34 :: 38 :: 42 :: 37 :: 35 :: 36 :: 41 :: 39 :: 40 :: []) :: (46 :: 45 :: 43 :: 33 :: 44 :: 32 :: 31 :: 0 :: 20 :: 24 :: 30 :: 4 :: 8 :: 15 :: 19 :: 3 :: 1 :: 2 :: 7 :: 5 :: 6 :: 14 :: 9 :: 13 :: 12 :: 10 :: 11 :: 18 :: 16 :: 17 :: 23 :: 21 :: 22 :: 29 :: 28 :: 27 :: 25 :: 26 :: 34 :: 38 :: 42 :: 37 :: 35 :: 36 :: 41 :: 39 :: 40 :: []) :: (48 :: 49 :: 46 :: 45 :: 43 :: 33 :: 44 :: 32 :: 31 :: 0 :: 20 :: 24 :: 30 :: 4 :: 8 :: 15 :: 19 :: 3 :: 1 :: 2 :: 7 :: 5 :: 6 :: 14 :: 9 :: 13 :: 12 :: 10 :: 11 :: 18 :: 16 :: 17 :: 23 :: 21 :: 22 :: 29 :: 28 :: 27 :: 25 :: 26 :: 34 :: 38 :: 42 :: 37 :: 35 :: 36 :: 41 :: 39 :: 40 :: []) :: (50 :: 46 :: 48 :: 49 :: 45 :: 43 :: 33 :: 44 :: 32 :: 31 :: 0 :: 20 :: 24 :: 30 :: 4 :: 8 :: 15 :: 19 :: 3 :: 1 :: 2 :: 7 :: 5 :: 6 :: 14 :: 9 :: 13 :: 12 :: 10 :: 11 :: 18 :: 16 :: 17 :: 23 :: 21 :: 22 :: 29 :: 28 :: 27 :: 25 :: 26 :: 34 :: 38 :: 42 :: 37 :: 35 :: 36 :: 41 :: 39 :: 40 :: []) :: (46 :: 45 :: 43 :: 33 :: 44 :: 32 :: 31 :: 0 :: 20 :: 24 :: 30 :: 4 :: 8 :: 15 :: 19 :: 3 :: 1 :: 2 :: 7 :: 5 :: 6 :: 14 :: 9 :: 13 :: 12 :: 10 :: 11 :: 18 :: 16 :: 17 :: 23 :: 21 :: 22 :: 29 :: 28 :: 27 :: 25 :: 26 :: 34 :: 38 :: 42 :: 37 :: 35 :: 36 :: 41 :: 39 :: 40 :: []) :: (46 :: 45 :: 43 :: 33 :: 44 :: 32 :: 31 :: 0 :: 20 :: 24 :: 30 :: 4 :: 8 :: 15 :: 19 :: 3 :: 1 :: 2 :: 7 :: 5 :: 6 :: 14 :: 9 :: 13 :: 12 :: 10 :: 11 :: 18 :: 16 :: 17 :: 23 :: 21 :: 22 :: 29 :: 28 :: 27 :: 25 :: 26 :: 34 :: 38 :: 42 :: 37 :: 35 :: 36 :: 41 :: 39 :: 40 :: []) :: (52 :: 53 :: 46 :: 45 :: 43 :: 33 :: 44 :: 32 :: 31 :: 0 :: 20 :: 24 :: 30 :: 4 :: 8 :: 15 :: 19 :: 3 :: 1 :: 2 :: 7 :: 5 :: 6 :: 14 :: 9 :: 13 :: 12 :: 10 :: 11 :: 18 :: 16 :: 17 :: 23 :: 21 :: 22 :: 29 :: 28 :: 27 :: 25 :: 26 :: 34 :: 38 :: 42 :: 37 :: 35 :: 36 :: 41 :: 39 :: 40 :: []) :: (46 :: 45 :: 43 :: 33 :: 44 :: 32 :: 31 :: 0 :: 20 :: 24 :: 30 :: 4 :: 8 :: 15 :: 19 :: 3 :: 1 :: 2 :: 7 :: 5 :: 6 :: 14 :: 9 :: 13 :: 12 :: 10 :: 11 :: 18 :: 16 :: 17 :: 23 :: 21 :: 22 :: 29 :: 28 :: 27 :: 25 :: 26 :: 34 :: 38 :: 42 :: 37 :: 35 :: 36 :: 41 :: 39 :: 40 :: []) :: (46 :: 45 :: 43 :: 33 :: 44 :: 32 :: 31 :: 0 :: 20 :: 24 :: 30 :: 4 :: 8 :: 15 :: 19 :: 3 :: 1 :: 2 :: 7 :: 5 :: 6 :: 14 :: 9 :: 13 :: 12 :: 10 :: 11 :: 18 :: 16 :: 17 :: 23 :: 21 :: 22 :: 29 :: 28 :: 27 :: 25 :: 26 :: 34 :: 38 :: 42 :: 37 :: 35 :: 36 :: 41 :: 39 :: 40 :: []) :: (55 :: 56 :: 46 :: 45 :: 43 :: 33 :: 44 :: 32 :: 31 :: 0 :: 20 :: 24 :: 30 :: 4 :: 8 :: 15 :: 19 :: 3 :: 1 :: 2 :: 7 :: 5 :: 6 :: 14 :: 9 :: 13 :: 12 :: 10 :: 11 :: 18 :: 16 :: 17 :: 23 :: 21 :: 22 :: 29 :: 28 :: 27 :: 25 :: 26 :: 34 :: 38 :: 42 :: 37 :: 35 :: 36 :: 41 :: 39 :: 40 :: []) :: (47 :: 51 :: 54 :: 57 :: 46 :: 45 :: 43 :: 33 :: 44 :: 32 :: 31 :: 0 :: 20 :: 24 :: 30 :: 4 :: 8 :: 15 :: 19 :: 3 :: 1 :: 2 :: 7 :: 5 :: 6 :: 14 :: 9 :: 13 :: 12 :: 10 :: 11 :: 18 :: 16 :: 17 :: 23 :: 21 :: 22 :: 29 :: 28 :: 27 :: 25 :: 26 :: 34 :: 38 :: 42 :: 37 :: 35 :: 36 :: 41 :: 39 :: 40 :: 50 :: 48 :: 49 :: 52 :: 53 :: 55 :: 56 :: []) :: (58 :: 46 :: 47 :: 51 :: 54 :: 57 :: 45 :: 43 :: 33 :: 44 :: 32 :: 31 :: 0 :: 20 :: 24 :: 30 :: 4 :: 8 :: 15 :: 19 :: 3 :: 1 :: 2 :: 7 :: 5 :: 6 :: 14 :: 9 :: 13 :: 12 :: 10 :: 11 :: 18 :: 16 :: 17 :: 23 :: 21 :: 22 :: 29 :: 28 :: 27 :: 25 :: 26 :: 34 :: 38 :: 42 :: 37 :: 35 :: 36 :: 41 :: 39 :: 40 :: 50 :: 48 :: 49 :: 52 :: 53 :: 55 :: 56 :: []) :: (46 :: 59 :: 45 :: 43 :: 33 :: 44 :: 32 :: 31 :: 0 :: 20 :: 24 :: 30 :: 4 :: 8 :: 15 :: 19 :: 3 :: 1 :: 2 :: 7 :: 5 :: 6 :: 14 :: 9 :: 13 :: 12 :: 10 :: 11 :: 18 :: 16 :: 17 :: 23 :: 21 :: 22 :: 29 :: 28 :: 27 :: 25 :: 26 :: 34 :: 38 :: 42 :: 37 :: 35 :: 36 :: 41 :: 39 :: 40 :: 58 :: 47 :: 51 :: 54 :: 57 :: 50 :: 48 :: 49 :: 52 :: 53 :: 55 :: 56 :: []) :: [])
def known26_kill : List (List Nat) := ([] :: [] :: [] :: [] :: [] :: [] :: [] :: [] :: [] :: [] :: [] :: [] :: [] :: [] :: [] :: [] :: [] :: [] :: [] :: [] :: [] :: [] :: [] :: [] :: [] :: [] :: [] :: [] :: [] :: [] :: [] :: [] :: [] :: [] :: [] :: [] :: [] :: [] :: [] :: [] :: [] :: [] :: [] :: [] :: [] :: [] :: [] :: [] :: [] :: [] :: [] :: [] :: [] :: [] :: [] :: [] :: [] :: [] :: [] :: [] :: [] :: [])
def known26_uses : List (List Nat) := ([] :: [] :: [] :: [] :: [] :: [] :: [] :: [] :: [] :: [] :: [] :: [] :: [] :: [] :: [] :: [] :: [] :: [] :: [] :: [] :: [] :: [] :: [] :: [] :: [] :: [] :: [] :: [] :: [] :: [] :: [] :: [20] :: [] :: [] :: [] :: [] :: [] :: [] :: [] :: [] :: [] :: [] :: [] :: [] :: [] :: [] :: [] :: [] :: [] :: [] :: [] :: [] :: [] :: [] :: [] :: [] :: [] :: [] :: [] :: [] :: [] :: [])
noncomputable def known26_code : Code := ((Try.f7.body.bind (codeRegion 26)).getD .skip)
set_option maxRecDepth 100000 in
set_option maxHeartbeats 4000000 in
theorem known26_in (z : Int) (i k lb : Nat) (w2 : World) (hz : -9223372036854775808 ≤ z ∧ z ≤ 9223372036854775807) (hi12 : i < 12) (hk12 : k < 12) (u0 u1 u2 u3 u4 u5 u7 u11 u12 u13 u14 u15 u16 u17 u18 u19 u20 u21 u22 u23 u24 u25 u26 u27 u28 u29 u30 u31 u32 u33 u34 u35 u36 u37 u38 u39 u40 u41 u42 u43 u44 u45 u46 u47 u48 u49 u50 u51 u52 u53 u54 u55 u56 u57 u58 u59 u60 u61 u62 u63 u64 u65 u66 u67 u68 u69 u70 u71 u72 u73 u74 u75 u76 u77 u78 u79 u80 u81 u82 u83 u84 u85 u86 u87 u88 u89 u90 u91 u92 u93 u94 u95 u96 u97 u98 u99 u100 u101 u102 u103 u104 u105 u106 u107 u108 u109 u110 u111 u112 u113 u114 u115 u116 u117 u118 u119 u120 u121 u122 u123 u124 u125 u126 u127 u128 u129 u130 u131 u132 u133 u134 u135 u136 u137 u138 u139 u140 u141 u142 u143 u144 u145 u146 : Value) (w : World) (hIL : Is w2 lb 23 kLC) (hO : Only (fun _ => False) w2 w) :
    Code.wp Try.prog known26_code (fun e a w' => (∃ y78 y79 y80 y81 y82 y83 y84 y85 y86 y87 y88 y89 y90 y91 y92 y93 y94 y95 y96 y97 y98 y99 y100 y101 y102 y103 y104 y105 y106 y107 y108 y109 y110 y111 y112 y113 y114 y115 y116 y117 y118 y119 y120 y121 y122 y123 y124 y125 y126 y127 y128 y129 y130 y131 y132 y133 y134 y135 y136 y137 : Value, a = ⟨(List.toArray (u0 :: u1 :: u2 :: u3 :: u4 :: u5 :: .slice (some ⟨lb, 0, none⟩) 12 12 :: u7 :: .int .i64 z :: .int .i64 (i : Int) :: .int .i64 (k : Int) :: u11 :: u12 :: u13 :: u14 :: u15 :: u16 :: u17 :: u18 :: u19 :: u20 :: u21 :: u22 :: u23 :: u24 :: u25 :: u26 :: u27 :: u28 :: u29 :: u30 :: u31 :: u32 :: u33 :: u34 :: u35 :: u36 :: u37 :: u38 :: u39 :: u40 :: u41 :: u42 :: u43 :: u44 :: u45 :: u46 :: u47 :: u48 :: u49 :: u50 :: u51 :: u52 :: u53 :: u54 :: u55 :: u56 :: u57 :: u58 :: u59 :: u60 :: u61 :: u62 :: u63 :: u64 :: u65 :: u66 :: u67 :: u68 :: u69 :: u70 :: u71 :: u72 :: u73 :: u74 :: u75 :: u76 :: u77 :: y78 :: y79 :: y80 :: y81 :: y82 :: y83 :: y84 :: y85 :: y86 :: y87 :: y88 :: y89 :: y90 :: y91 :: y92 :: y93 :: y94 :: y95 :: y96 :: y97 :: y98 :: y99 :: y100 :: y101 :: y102 :: y103 :: y104 :: y105 :: y106 :: y107 :: y108 :: y109 :: y110 :: y111 :: y112 :: y113 :: y114 :: y115 :: y116 :: y117 :: y118 :: y119 :: y120 :: y121 :: y122 :: y123 :: y124 :: y125 :: y126 :: y127 :: y128 :: y129 :: y130 :: y131 :: y132 :: y133 :: y134 :: y135 :: y136 :: y137 :: .bool false :: u139 :: u140 :: u141 :: u142 :: u143 :: u144 :: u145 :: u146 :: [])), []⟩) ∧ e = .normal ∧ Only (fun _ => False) w2 w') ⟨(List.toArray (u0 :: u1 :: u2 :: u3 :: u4 :: u5 :: .slice (some ⟨lb, 0, none⟩) 12 12 :: u7 :: .int .i64 z :: .int .i64 (i : Int) :: .int .i64 (k : Int) :: u11 :: u12 :: u13 :: u14 :: u15 :: u16 :: u17 :: u18 :: u19 :: u20 :: u21 :: u22 :: u23 :: u24 :: u25 :: u26 :: u27 :: u28 :: u29 :: u30 :: u31 :: u32 :: u33 :: u34 :: u35 :: u36 :: u37 :: u38 :: u39 :: u40 :: u41 :: u42 :: u43 :: u44 :: u45 :: u46 :: u47 :: u48 :: u49 :: u50 :: u51 :: u52 :: u53 :: u54 :: u55 :: u56 :: u57 :: u58 :: u59 :: u60 :: u61 :: u62 :: u63 :: u64 :: u65 :: u66 :: u67 :: u68 :: u69 :: u70 :: u71 :: u72 :: u73 :: u74 :: u75 :: u76 :: u77 :: u78 :: u79 :: u80 :: u81 :: u82 :: u83 :: u84 :: u85 :: u86 :: u87 :: u88 :: u89 :: u90 :: u91 :: u92 :: u93 :: u94 :: u95 :: u96 :: u97 :: u98 :: u99 :: u100 :: u101 :: u102 :: u103 :: u104 :: u105 :: u106 :: u107 :: u108 :: u109 :: u110 :: u111 :: u112 :: u113 :: u114 :: u115 :: u116 :: u117 :: u118 :: u119 :: u120 :: u121 :: u122 :: u123 :: u124 :: u125 :: u126 :: u127 :: u128 :: u129 :: u130 :: u131 :: u132 :: u133 :: u134 :: u135 :: u136 :: u137 :: u138 :: u139 :: u140 :: u141 :: u142 :: u143 :: u144 :: u145 :: u146 :: [])), []⟩ w := by
  conv => arg 2; whnf
  have zi : (i : Int) < 12 := by omega
  have zk : (k : Int) < 12 := by omega
  obtain ⟨ik, hik⟩ : ∃ x, i + k = x := ⟨_, rfl⟩
  have z1 : (i : Int) + (k : Int) = (ik : Int) := by omega
  have z2 : IntKind.i64.wrap ((i : Int) + (k : Int)) = (ik : Int) := by rw [z1]; exact IntWalk.i64_in _ (by omega)
  obtain ⟨m, hm⟩ : ∃ x, ik % 12 = x := ⟨_, rfl⟩
  have z5 : IntKind.i64.wrap (ik : Int) = (ik : Int) := IntWalk.i64_in _ (by omega)
  have z6 : (k : Int) ≤ 12 := by omega
  have z7 : (i : Int) ≤ 12 := by omega
  have z8 : ¬ 12 = k := by omega
  have z9 : ¬ 12 = i := by omega
  have z3 : (ik : Int) % 12 = (m : Int) := by omega
  have z4 : (ik : Int).tmod 12 = (m : Int) := by rw [← hm]; rfl
  have hm12 : m < 12 := by omega
  have zm : (m : Int) < 12 := by omega
  clear hik hm
  obtain ⟨li, hli, hlic⟩ := kL_at i hi12
  obtain ⟨lk, hlk, hlkc⟩ := kL_at k hk12
  obtain ⟨lm, hlm, hlmc⟩ := kL_at m hm12
  have HLC := Lib.hid (fun (wx : World) (h : Is wx lb 23 kLC) => show wx.cell? ⟨lb, i, none⟩ = some (.int .u32 (li : Int)) ∧ wx.cell? ⟨lb, k, none⟩ = some (.int .u32 (lk : Int)) ∧ wx.cell? ⟨lb, m, none⟩ = some (.int .u32 (lm : Int)) from ⟨(h.cell i).trans hlic, (h.cell k).trans hlkc, (h.cell m).trans hlmc⟩)
  have H1 := Lib.hid hli
  have H2 := Lib.hid hlk
  have H3 := Lib.hid hlm
  have HI := Lib.hid hi12
  have HK := Lib.hid hk12
  have HZ := Lib.hid hz
  clear hlic hlkc hlmc hli hlk hlm hz
  refine wp_region_posts known26_A [20, 31, 43, 58] [20] known26_kill known26_uses [] [] [] []
      (some ?v0 :: some ?v1 :: some ?v2 :: some ?v3 :: some ?v4 :: some ?v5 :: some ?v6 :: some ?v7 :: some ?v8 :: some ?v9 :: some ?v10 :: some ?v11 :: some ?v12 :: some ?v13 :: some ?v14 :: some ?v15 :: some ?v16 :: some ?v17 :: some ?v18 :: some ?v19 :: none :: some ?v21 :: some ?v22 :: some ?v23 :: some ?v24 :: some ?v25 :: some ?v26 :: some ?v27 :: some ?v28 :: some ?v29 :: some ?v30 :: some (.bool true) :: some ?v32 :: some ?v33 :: some ?v34 :: some ?v35 :: some ?v36 :: some ?v37 :: some ?v38 :: some ?v39 :: some ?v40 :: some ?v41 :: some ?v42 :: some (.bool true) :: some ?v44 :: some ?v45 :: some ?v46 :: some ?v47 :: some ?v48 :: some ?v49 :: some ?v50 :: some ?v51 :: some ?v52 :: some ?v53 :: some ?v54 :: some ?v55 :: some ?v56 :: some ?v57 :: some (.bool true) :: some ?v59 :: some ?v60 :: [])
      ?T (fun wx => Is wx lb 23 kLC ∧ Only (fun _ => False) w2 wx) ?W ?E (by kernel_rfl) (by kernel_rfl) (by kernel_rfl) (fun x => ?hT) ?hF ?hini (Reg.all_ops ?runs) ?pres ?fin
  case W => exact fun j x wx => match j with | 20 => (∃ g, x 20 = .slice (some ⟨g, 0, none⟩) 4 4) ∧ Rd .u32 wx (x 20) (nats [li, lk, lm, li]) | _ => True
  case E => exact fun _ wx wy => Only (fun _ => False) wx wy
  case hT =>
    simp only [Reg.fillV, Act.put, List.setIfInBounds_toArray, List.set_cons_zero, List.set_cons_succ]
    rfl
  case runs =>
    refine And.intro ?_ ?_
    · refine Reg.ob_pure (fun _ => rfl) rfl rfl rfl rfl (fun x w1 hF => ?_)
      obtain ⟨c0, c1, c2⟩ := HLC.out _ hF.1
      go_simp
      with_reducible rfl
    refine And.intro ?_ ?_
    · refine Reg.ob_pure (fun _ => rfl) rfl rfl rfl rfl (fun x w1 hF => ?_)
      obtain ⟨c0, c1, c2⟩ := HLC.out _ hF.1
      go_simp
      with_reducible rfl
    refine And.intro ?_ ?_
    · refine Reg.ob_pure (fun _ => rfl) rfl rfl rfl rfl (fun x w1 hF => ?_)
      obtain ⟨c0, c1, c2⟩ := HLC.out _ hF.1
      go_simp
      with_reducible rfl
    refine And.intro ?_ ?_
    · refine Reg.ob_pure (fun _ => rfl) rfl rfl rfl rfl (fun x w1 hF => ?_)
      obtain ⟨c0, c1, c2⟩ := HLC.out _ hF.1
      go_simp
      with_reducible rfl
    refine And.intro ?_ ?_
    · refine Reg.ob_pure (fun _ => rfl) rfl rfl rfl rfl (fun x w1 hF => ?_)
      obtain ⟨c0, c1, c2⟩ := HLC.out _ hF.1
      go_simp
      with_reducible rfl
    refine And.intro ?_ ?_
    · refine Reg.ob_pure (fun _ => rfl) rfl rfl rfl rfl (fun x w1 hF => ?_)
      obtain ⟨c0, c1, c2⟩ := HLC.out _ hF.1
      go_simp
      with_reducible rfl
    refine And.intro ?_ ?_
    · refine Reg.ob_pure (fun _ => rfl) rfl rfl rfl rfl (fun x w1 hF => ?_)
      obtain ⟨c0, c1, c2⟩ := HLC.out _ hF.1
      go_simp
      with_reducible rfl
    refine And.intro ?_ ?_
    · refine Reg.ob_pure (fun _ => rfl) rfl rfl rfl rfl (fun x w1 hF => ?_)
      obtain ⟨c0, c1, c2⟩ := HLC.out _ hF.1
      go_simp
      with_reducible rfl
    refine And.intro ?_ ?_
    · refine Reg.ob_pure (fun _ => rfl) rfl rfl rfl rfl (fun x w1 hF => ?_)
      obtain ⟨c0, c1, c2⟩ := HLC.out _ hF.1
      go_simp
      with_reducible rfl
    refine And.intro ?_ ?_
    · refine Reg.ob_pure (fun _ => rfl) rfl rfl rfl rfl (fun x w1 hF => ?_)
      obtain ⟨c0, c1, c2⟩ := HLC.out _ hF.1
      go_simp
      with_reducible rfl
    refine And.intro ?_ ?_
    · refine Reg.ob_pure (fun _ => rfl) rfl rfl rfl rfl (fun x w1 hF => ?_)
      obtain ⟨c0, c1, c2⟩ := HLC.out _ hF.1
      go_simp
      with_reducible rfl
    refine And.intro ?_ ?_
    · refine Reg.ob_pure (fun _ => rfl) rfl rfl rfl rfl (fun x w1 hF => ?_)
      obtain ⟨c0, c1, c2⟩ := HLC.out _ hF.1
      go_simp
      with_reducible rfl
    refine And.intro ?_ ?_
    · refine Reg.ob_pure (fun _ => rfl) rfl rfl rfl rfl (fun x w1 hF => ?_)
      obtain ⟨c0, c1, c2⟩ := HLC.out _ hF.1
      go_simp
      with_reducible rfl
    refine And.intro ?_ ?_
    · refine Reg.ob_pure (fun _ => rfl) rfl rfl rfl rfl (fun x w1 hF => ?_)
      obtain ⟨c0, c1, c2⟩ := HLC.out _ hF.1
      go_simp
      with_reducible rfl
    refine And.intro ?_ ?_
    · refine Reg.ob_pure (fun _ => rfl) rfl rfl rfl rfl (fun x w1 hF => ?_)
      obtain ⟨c0, c1, c2⟩ := HLC.out _ hF.1
      go_simp
      with_reducible rfl
    refine And.intro ?_ ?_
    · refine Reg.ob_pure (fun _ => rfl) rfl rfl rfl rfl (fun x w1 hF => ?_)
      obtain ⟨c0, c1, c2⟩ := HLC.out _ hF.1
      go_simp
      with_reducible rfl
    refine And.intro ?_ ?_
    · refine Reg.ob_pure (fun _ => rfl) rfl rfl rfl rfl (fun x w1 hF => ?_)
      obtain ⟨c0, c1, c2⟩ := HLC.out _ hF.1
      go_simp
      with_reducible rfl
    refine And.intro ?_ ?_
    · refine Reg.ob_pure (fun _ => rfl) rfl rfl rfl rfl (fun x w1 hF => ?_)
      obtain ⟨c0, c1, c2⟩ := HLC.out _ hF.1
      go_simp
      with_reducible rfl
    refine And.intro ?_ ?_
    · refine Reg.ob_pure (fun _ => rfl) rfl rfl rfl rfl (fun x w1 hF => ?_)
      obtain ⟨c0, c1, c2⟩ := HLC.out _ hF.1
      go_simp
      with_reducible rfl
    refine And.intro ?_ ?_
    · refine Reg.ob_pure (fun _ => rfl) rfl rfl rfl rfl (fun x w1 hF => ?_)
      obtain ⟨c0, c1, c2⟩ := HLC.out _ hF.1
      go_simp
      with_reducible rfl
    refine And.intro ?_ ?_
    · refine Reg.ob_some (fun _ => rfl) rfl (fun x w1 hF hU K hK => ?_)
      obtain ⟨h1, h2⟩ := hF rfl
      go_simp
      have ho : Only (fun _ => False) w1 (w1.alloc (.cells #[.int .u32 (li : Int), .int .u32 (lk : Int), .int .u32 (lm : Int), .int .u32 (li : Int)] 23)) := (Only.refl _ w1).alloc _
      exact hK _ _ (fun _ _ _ => ⟨h1.only ho (by simp), h2.and ho⟩) ho ⟨⟨_, rfl⟩, rd_lit 23 [li, lk, lm, li] (Is.made _ _ _) rfl⟩
    refine And.intro ?_ ?_
    · refine Reg.ob_pure (fun _ => rfl) rfl rfl rfl rfl (fun x w1 hF => ?_)
      obtain ⟨c0, c1, c2⟩ := HLC.out _ hF.1
      go_simp
      with_reducible rfl
    refine And.intro ?_ ?_
    · refine Reg.ob_pure (fun _ => rfl) rfl rfl rfl rfl (fun x w1 hF => ?_)
      obtain ⟨c0, c1, c2⟩ := HLC.out _ hF.1
      go_simp
      with_reducible rfl
    refine And.intro ?_ ?_
    · refine Reg.ob_pure (fun _ => rfl) rfl rfl rfl rfl (fun x w1 hF => ?_)
      obtain ⟨c0, c1, c2⟩ := HLC.out _ hF.1
      go_simp
      with_reducible rfl
    refine And.intro ?_ ?_
    · refine Reg.ob_pure (fun _ => rfl) rfl rfl rfl rfl (fun x w1 hF => ?_)
      obtain ⟨c0, c1, c2⟩ := HLC.out _ hF.1
      go_simp
      with_reducible rfl
    refine And.intro ?_ ?_
    · refine Reg.ob_pure (fun _ => rfl) rfl rfl rfl rfl (fun x w1 hF => ?_)
      obtain ⟨c0, c1, c2⟩ := HLC.out _ hF.1
      go_simp
      with_reducible rfl
    refine And.intro ?_ ?_
    · refine Reg.ob_pure (fun _ => rfl) rfl rfl rfl rfl (fun x w1 hF => ?_)
      obtain ⟨c0, c1, c2⟩ := HLC.out _ hF.1
      go_simp
      with_reducible rfl
    refine And.intro ?_ ?_
    · refine Reg.ob_pure (fun _ => rfl) rfl rfl rfl rfl (fun x w1 hF => ?_)
      obtain ⟨c0, c1, c2⟩ := HLC.out _ hF.1
      go_simp
      with_reducible rfl
    refine And.intro ?_ ?_
    · refine Reg.ob_pure (fun _ => rfl) rfl rfl rfl rfl (fun x w1 hF => ?_)
      obtain ⟨c0, c1, c2⟩ := HLC.out _ hF.1
      go_simp
      with_reducible rfl
    refine And.intro ?_ ?_
    · refine Reg.ob_pure (fun _ => rfl) rfl rfl rfl rfl (fun x w1 hF => ?_)
      obtain ⟨c0, c1, c2⟩ := HLC.out _ hF.1
      go_simp
      with_reducible rfl
    refine And.intro ?_ ?_
    · refine Reg.ob_pure (fun _ => rfl) rfl rfl rfl rfl (fun x w1 hF => ?_)
      obtain ⟨c0, c1, c2⟩ := HLC.out _ hF.1
      go_simp
      with_reducible rfl
    refine And.intro ?_ ?_
    · refine Reg.ob_known (fun _ => rfl) rfl rfl (fun x w1 hF hU K hK => ?_)
      obtain ⟨h1, h2⟩ := hF rfl
      obtain ⟨⟨⟨g, hg⟩, hr⟩, -⟩ := hU
      have hg : x 20 = .slice (some ⟨g, 0, none⟩) 4 4 := hg
      have hr : Rd .u32 w1 (x 20) (nats [li, lk, lm, li]) := hr
      revert hK
      simp only [Nat.reduceAdd, hg] at hr ⊢
      intro hK
      go_simp
      refine (nexts_any z _ [li, lk, lm, li] _ _ w1 hr (by have := H1.out; have := H2.out; have := H3.out; intro x hx; simp only [List.mem_cons, List.mem_nil_iff, or_false] at hx; omega) (by have := H2.out; omega) (u64_any _) (by simp)).mono ?_
      rintro e w4 ⟨rfl, ho⟩
      exact hK w4 (fun _ _ _ => ⟨h1.only ho (by simp), h2.and ho⟩) ho
    refine And.intro ?_ ?_
    · refine Reg.ob_pure (fun _ => rfl) rfl rfl rfl rfl (fun x w1 hF => ?_)
      obtain ⟨c0, c1, c2⟩ := HLC.out _ hF.1
      go_simp
      with_reducible rfl
    refine And.intro ?_ ?_
    · refine Reg.ob_pure (fun _ => rfl) rfl rfl rfl rfl (fun x w1 hF => ?_)
      obtain ⟨c0, c1, c2⟩ := HLC.out _ hF.1
      go_simp
      with_reducible rfl
    refine And.intro ?_ ?_
    · refine Reg.ob_pure (fun _ => rfl) rfl rfl rfl rfl (fun x w1 hF => ?_)
      obtain ⟨c0, c1, c2⟩ := HLC.out _ hF.1
      go_simp
      with_reducible rfl
    refine And.intro ?_ ?_
    · refine Reg.ob_pure (fun _ => rfl) rfl rfl rfl rfl (fun x w1 hF => ?_)
      obtain ⟨c0, c1, c2⟩ := HLC.out _ hF.1
      go_simp
      with_reducible rfl
    refine And.intro ?_ ?_
    · refine Reg.ob_pure (fun _ => rfl) rfl rfl rfl rfl (fun x w1 hF => ?_)
      obtain ⟨c0, c1, c2⟩ := HLC.out _ hF.1
      go_simp
      with_reducible rfl
    refine And.intro ?_ ?_
    · refine Reg.ob_pure (fun _ => rfl) rfl rfl rfl rfl (fun x w1 hF => ?_)
      obtain ⟨c0, c1, c2⟩ := HLC.out _ hF.1
      go_simp
      with_reducible rfl
    refine And.intro ?_ ?_
    · refine Reg.ob_pure (fun _ => rfl) rfl rfl rfl rfl (fun x w1 hF => ?_)
      obtain ⟨c0, c1, c2⟩ := HLC.out _ hF.1
      go_simp
      with_reducible rfl
    refine And.intro ?_ ?_
    · refine Reg.ob_pure (fun _ => rfl) rfl rfl rfl rfl (fun x w1 hF => ?_)
      obtain ⟨c0, c1, c2⟩ := HLC.out _ hF.1
      go_simp
      with_reducible rfl
    refine And.intro ?_ ?_
    · refine Reg.ob_pure (fun _ => rfl) rfl rfl rfl rfl (fun x w1 hF => ?_)
      obtain ⟨c0, c1, c2⟩ := HLC.out _ hF.1
      go_simp
      with_reducible rfl
    refine And.intro ?_ ?_
    · refine Reg.ob_pure (fun _ => rfl) rfl rfl rfl rfl (fun x w1 hF => ?_)
      obtain ⟨c0, c1, c2⟩ := HLC.out _ hF.1
      go_simp
      with_reducible rfl
    refine And.intro ?_ ?_
    · refine Reg.ob_pure (fun _ => rfl) rfl rfl rfl rfl (fun x w1 hF => ?_)
      obtain ⟨c0, c1, c2⟩ := HLC.out _ hF.1
      go_simp
      with_reducible rfl
    refine And.intro ?_ ?_
    · refine Reg.ob_known (fun _ => rfl) rfl rfl (fun x w1 hF hU K hK => ?_)
      obtain ⟨h1, h2⟩ := hF rfl
      go_simp
      refine (circles_any z _ _ w1 (by have := H1.out; omega) (by have := H2.out; omega)).mono ?_
      rintro e w4 ⟨rfl, ho⟩
      exact hK w4 (fun _ _ _ => ⟨h1.only ho (by simp), h2.and ho⟩) ho
    refine And.intro ?_ ?_
    · refine Reg.ob_pure (fun _ => rfl) rfl rfl rfl rfl (fun x w1 hF => ?_)
      obtain ⟨c0, c1, c2⟩ := HLC.out _ hF.1
      go_simp
      with_reducible rfl
    refine And.intro ?_ ?_
    · refine Reg.ob_pure (fun _ => rfl) rfl rfl rfl rfl (fun x w1 hF => ?_)
      obtain ⟨c0, c1, c2⟩ := HLC.out _ hF.1
      go_simp
      with_reducible rfl
    refine And.intro ?_ ?_
    · refine Reg.ob_pure (fun _ => rfl) rfl rfl rfl rfl (fun x w1 hF => ?_)
      obtain ⟨c0, c1, c2⟩ := HLC.out _ hF.1
      go_simp
      with_reducible rfl
    refine And.intro ?_ ?_
    · refine Reg.ob_pure (fun _ => rfl) rfl rfl rfl rfl (fun x w1 hF => ?_)
      obtain ⟨c0, c1, c2⟩ := HLC.out _ hF.1
      go_simp
      with_reducible rfl
    refine And.intro ?_ ?_
    · refine Reg.ob_pure (fun _ => rfl) rfl rfl rfl rfl (fun x w1 hF => ?_)
      obtain ⟨c0, c1, c2⟩ := HLC.out _ hF.1
      go_simp
      with_reducible rfl
    refine And.intro ?_ ?_
    · refine Reg.ob_pure (fun _ => rfl) rfl rfl rfl rfl (fun x w1 hF => ?_)
      obtain ⟨c0, c1, c2⟩ := HLC.out _ hF.1
      go_simp
      with_reducible rfl
    refine And.intro ?_ ?_
    · refine Reg.ob_pure (fun _ => rfl) rfl rfl rfl rfl (fun x w1 hF => ?_)
      obtain ⟨c0, c1, c2⟩ := HLC.out _ hF.1
      go_simp
      with_reducible rfl
    refine And.intro ?_ ?_
    · refine Reg.ob_pure (fun _ => rfl) rfl rfl rfl rfl (fun x w1 hF => ?_)
      obtain ⟨c0, c1, c2⟩ := HLC.out _ hF.1
      go_simp
      with_reducible rfl
    refine And.intro ?_ ?_
    · refine Reg.ob_pure (fun _ => rfl) rfl rfl rfl rfl (fun x w1 hF => ?_)
      obtain ⟨c0, c1, c2⟩ := HLC.out _ hF.1
      go_simp
      with_reducible rfl
    refine And.intro ?_ ?_
    · refine Reg.ob_pure (fun _ => rfl) rfl rfl rfl rfl (fun x w1 hF => ?_)
      obtain ⟨c0, c1, c2⟩ := HLC.out _ hF.1
      go_simp
      with_reducible rfl
    refine And.intro ?_ ?_
    · refine Reg.ob_pure (fun _ => rfl) rfl rfl rfl rfl (fun x w1 hF => ?_)
      obtain ⟨c0, c1, c2⟩ := HLC.out _ hF.1
      go_simp
      with_reducible rfl
    refine And.intro ?_ ?_
    · refine Reg.ob_pure (fun _ => rfl) rfl rfl rfl rfl (fun x w1 hF => ?_)
      obtain ⟨c0, c1, c2⟩ := HLC.out _ hF.1
      go_simp
      with_reducible rfl
    refine And.intro ?_ ?_
    · refine Reg.ob_pure (fun _ => rfl) rfl rfl rfl rfl (fun x w1 hF => ?_)
      obtain ⟨c0, c1, c2⟩ := HLC.out _ hF.1
      go_simp
      with_reducible rfl
    refine And.intro ?_ ?_
    · refine Reg.ob_pure (fun _ => rfl) rfl rfl rfl rfl (fun x w1 hF => ?_)
      obtain ⟨c0, c1, c2⟩ := HLC.out _ hF.1
      go_simp
      with_reducible rfl
    refine And.intro ?_ ?_
    · refine Reg.ob_known (fun _ => rfl) rfl rfl (fun x w1 hF hU K hK => ?_)
      obtain ⟨h1, h2⟩ := hF rfl
      go_simp
      refine (rises_walk z li _ _ (kL.drop k) (kL.drop i) w1 HZ.out H1.out (rd_cut 23 kL h1 rfl) (fun x hx => kL_lt x (List.mem_of_mem_drop hx)) (rd_cut 23 kL h1 rfl) (fun x hx => kL_lt x (List.mem_of_mem_drop hx)) (by rw [List.length_drop]; have : kL.length = 12 := rfl; omega) (by rw [List.length_drop]; have : kL.length = 12 := rfl; omega)).mono ?_
      rintro e w4 ⟨rfl, ho⟩
      exact hK w4 (fun _ _ _ => ⟨h1.only ho (by simp), h2.and ho⟩) ho
    refine And.intro ?_ ?_
    · refine Reg.ob_pure (fun _ => rfl) rfl rfl rfl rfl (fun x w1 hF => ?_)
      obtain ⟨c0, c1, c2⟩ := HLC.out _ hF.1
      go_simp
      with_reducible rfl
    refine And.intro ?_ ?_
    · refine Reg.ob_pure (fun _ => rfl) rfl rfl rfl rfl (fun x w1 hF => ?_)
      obtain ⟨c0, c1, c2⟩ := HLC.out _ hF.1
      go_simp
      with_reducible rfl
    exact trivial
  case hF =>
    exact ⟨hIL.only (hO.drewN 1) (by simp), hO.drewN 1⟩
  case hini =>
    exact trivial
  case pres =>
    intro i hi j hj hc x wx wy hF hE hW
    simp only [List.mem_cons, List.mem_nil_iff, or_false] at hi hj
    rcases hj with rfl
    rcases hi with rfl | rfl | rfl | rfl
    all_goals first | (exfalso; revert hc; decide) | skip
    all_goals exact ⟨hW.1, hW.2.only hE (by simp)⟩
  case fin =>
    rintro x w9 hF hU
    have O9 := (hF rfl).2
    refine ⟨?_, rfl, O9⟩
    repeat apply Exists.intro
    rfl

set_option maxRecDepth 100000 in
set_option maxHeartbeats 4000000 in
theorem known26 (z : Int) (i k lb : Nat) (w2 : World) (hz : -9223372036854775808 ≤ z ∧ z ≤ 9223372036854775807) (hi12 : i < 12) (hk12 : k < 12) (u0 u1 u2 u3 u4 u5 u7 u11 u12 u13 u14 u15 u16 u17 u18 u19 u20 u21 u22 u23 u24 u25 u26 u27 u28 u29 u30 u31 u32 u33 u34 u35 u36 u37 u38 u39 u40 u41 u42 u43 u44 u45 u46 u47 u48 u49 u50 u51 u52 u53 u54 u55 u56 u57 u58 u59 u60 u61 u62 u63 u64 u65 u66 u67 u68 u69 u70 u71 u72 u73 u74 u75 u76 u77 u78 u79 u80 u81 u82 u83 u84 u85 u86 u87 u88 u89 u90 u91 u92 u93 u94 u95 u96 u97 u98 u99 u100 u101 u102 u103 u104 u105 u106 u107 u108 u109 u110 u111 u112 u113 u114 u115 u116 u117 u118 u119 u120 u121 u122 u123 u124 u125 u126 u127 u128 u129 u130 u131 u132 u133 u134 u135 u136 u137 u138 u139 u140 u141 u142 u143 u144 u145 u146 : Value) (Q : Exit → Act → World → Prop) (w : World) (hIL : Is w2 lb 23 kLC) (hO : Only (fun _ => False) w2 w)
    (hend : ∀ (y78 y79 y80 y81 y82 y83 y84 y85 y86 y87 y88 y89 y90 y91 y92 y93 y94 y95 y96 y97 y98 y99 y100 y101 y102 y103 y104 y105 y106 y107 y108 y109 y110 y111 y112 y113 y114 y115 y116 y117 y118 y119 y120 y121 y122 y123 y124 y125 y126 y127 y128 y129 y130 y131 y132 y133 y134 y135 y136 y137 : Value) (w' : World), Only (fun _ => False) w2 w' → Q .normal ⟨(List.toArray (u0 :: u1 :: u2 :: u3 :: u4 :: u5 :: .slice (some ⟨lb, 0, none⟩) 12 12 :: u7 :: .int .i64 z :: .int .i64 (i : Int) :: .int .i64 (k : Int) :: u11 :: u12 :: u13 :: u14 :: u15 :: u16 :: u17 :: u18 :: u19 :: u20 :: u21 :: u22 :: u23 :: u24 :: u25 :: u26 :: u27 :: u28 :: u29 :: u30 :: u31 :: u32 :: u33 :: u34 :: u35 :: u36 :: u37 :: u38 :: u39 :: u40 :: u41 :: u42 :: u43 :: u44 :: u45 :: u46 :: u47 :: u48 :: u49 :: u50 :: u51 :: u52 :: u53 :: u54 :: u55 :: u56 :: u57 :: u58 :: u59 :: u60 :: u61 :: u62 :: u63 :: u64 :: u65 :: u66 :: u67 :: u68 :: u69 :: u70 :: u71 :: u72 :: u73 :: u74 :: u75 :: u76 :: u77 :: y78 :: y79 :: y80 :: y81 :: y82 :: y83 :: y84 :: y85 :: y86 :: y87 :: y88 :: y89 :: y90 :: y91 :: y92 :: y93 :: y94 :: y95 :: y96 :: y97 :: y98 :: y99 :: y100 :: y101 :: y102 :: y103 :: y104 :: y105 :: y106 :: y107 :: y108 :: y109 :: y110 :: y111 :: y112 :: y113 :: y114 :: y115 :: y116 :: y117 :: y118 :: y119 :: y120 :: y121 :: y122 :: y123 :: y124 :: y125 :: y126 :: y127 :: y128 :: y129 :: y130 :: y131 :: y132 :: y133 :: y134 :: y135 :: y136 :: y137 :: .bool false :: u139 :: u140 :: u141 :: u142 :: u143 :: u144 :: u145 :: u146 :: [])), []⟩ w') :
    Code.wp Try.prog known26_code Q ⟨(List.toArray (u0 :: u1 :: u2 :: u3 :: u4 :: u5 :: .slice (some ⟨lb, 0, none⟩) 12 12 :: u7 :: .int .i64 z :: .int .i64 (i : Int) :: .int .i64 (k : Int) :: u11 :: u12 :: u13 :: u14 :: u15 :: u16 :: u17 :: u18 :: u19 :: u20 :: u21 :: u22 :: u23 :: u24 :: u25 :: u26 :: u27 :: u28 :: u29 :: u30 :: u31 :: u32 :: u33 :: u34 :: u35 :: u36 :: u37 :: u38 :: u39 :: u40 :: u41 :: u42 :: u43 :: u44 :: u45 :: u46 :: u47 :: u48 :: u49 :: u50 :: u51 :: u52 :: u53 :: u54 :: u55 :: u56 :: u57 :: u58 :: u59 :: u60 :: u61 :: u62 :: u63 :: u64 :: u65 :: u66 :: u67 :: u68 :: u69 :: u70 :: u71 :: u72 :: u73 :: u74 :: u75 :: u76 :: u77 :: u78 :: u79 :: u80 :: u81 :: u82 :: u83 :: u84 :: u85 :: u86 :: u87 :: u88 :: u89 :: u90 :: u91 :: u92 :: u93 :: u94 :: u95 :: u96 :: u97 :: u98 :: u99 :: u100 :: u101 :: u102 :: u103 :: u104 :: u105 :: u106 :: u107 :: u108 :: u109 :: u110 :: u111 :: u112 :: u113 :: u114 :: u115 :: u116 :: u117 :: u118 :: u119 :: u120 :: u121 :: u122 :: u123 :: u124 :: u125 :: u126 :: u127 :: u128 :: u129 :: u130 :: u131 :: u132 :: u133 :: u134 :: u135 :: u136 :: u137 :: u138 :: u139 :: u140 :: u141 :: u142 :: u143 :: u144 :: u145 :: u146 :: [])), []⟩ w := by
  refine wp_mono (known26_in z i k lb w2 hz hi12 hk12 _ _ _ _ _ _ _ _ _ _ _ _ _ _ _ _ _ _ _ _ _ _ _ _ _ _ _ _ _ _ _ _ _ _ _ _ _ _ _ _ _ _ _ _ _ _ _ _ _ _ _ _ _ _ _ _ _ _ _ _ _ _ _ _ _ _ _ _ _ _ _ _ _ _ _ _ _ _ _ _ _ _ _ _ _ _ _ _ _ _ _ _ _ _ _ _ _ _ _ _ _ _ _ _ _ _ _ _ _ _ _ _ _ _ _ _ _ _ _ _ _ _ _ _ _ _ _ _ _ _ _ _ _ _ _ _ _ _ _ _ _ _ _ w hIL hO) ?_
  rintro e a w' ⟨h, rfl, hq⟩
  obtain ⟨y78, h⟩ := h
  obtain ⟨y79, h⟩ := h
  obtain ⟨y80, h⟩ := h
  obtain ⟨y81, h⟩ := h
  obtain ⟨y82, h⟩ := h
  obtain ⟨y83, h⟩ := h
  obtain ⟨y84, h⟩ := h
  obtain ⟨y85, h⟩ := h
  obtain ⟨y86, h⟩ := h
  obtain ⟨y87, h⟩ := h
  obtain ⟨y88, h⟩ := h
  obtain ⟨y89, h⟩ := h
  obtain ⟨y90, h⟩ := h
  obtain ⟨y91, h⟩ := h
  obtain ⟨y92, h⟩ := h
  obtain ⟨y93, h⟩ := h
  obtain ⟨y94, h⟩ := h
  obtain ⟨y95, h⟩ := h
  obtain ⟨y96, h⟩ := h
  obtain ⟨y97, h⟩ := h
  obtain ⟨y98, h⟩ := h
  obtain ⟨y99, h⟩ := h
  obtain ⟨y100, h⟩ := h
  obtain ⟨y101, h⟩ := h
  obtain ⟨y102, h⟩ := h
  obtain ⟨y103, h⟩ := h
  obtain ⟨y104, h⟩ := h
  obtain ⟨y105, h⟩ := h
  obtain ⟨y106, h⟩ := h
  obtain ⟨y107, h⟩ := h
  obtain ⟨y108, h⟩ := h
  obtain ⟨y109, h⟩ := h
  obtain ⟨y110, h⟩ := h
  obtain ⟨y111, h⟩ := h
  obtain ⟨y112, h⟩ := h
  obtain ⟨y113, h⟩ := h
  obtain ⟨y114, h⟩ := h
  obtain ⟨y115, h⟩ := h
  obtain ⟨y116, h⟩ := h
  obtain ⟨y117, h⟩ := h
  obtain ⟨y118, h⟩ := h
  obtain ⟨y119, h⟩ := h
  obtain ⟨y120, h⟩ := h
  obtain ⟨y121, h⟩ := h
  obtain ⟨y122, h⟩ := h
  obtain ⟨y123, h⟩ := h
  obtain ⟨y124, h⟩ := h
  obtain ⟨y125, h⟩ := h
  obtain ⟨y126, h⟩ := h
  obtain ⟨y127, h⟩ := h
  obtain ⟨y128, h⟩ := h
  obtain ⟨y129, h⟩ := h
  obtain ⟨y130, h⟩ := h
  obtain ⟨y131, h⟩ := h
  obtain ⟨y132, h⟩ := h
  obtain ⟨y133, h⟩ := h
  obtain ⟨y134, h⟩ := h
  obtain ⟨y135, h⟩ := h
  obtain ⟨y136, h⟩ := h
  obtain ⟨y137, h⟩ := h
  subst h
  exact hend y78 y79 y80 y81 y82 y83 y84 y85 y86 y87 y88 y89 y90 y91 y92 y93 y94 y95 y96 y97 y98 y99 y100 y101 y102 y103 y104 y105 y106 y107 y108 y109 y110 y111 y112 y113 y114 y115 y116 y117 y118 y119 y120 y121 y122 y123 y124 y125 y126 y127 y128 y129 y130 y131 y132 y133 y134 y135 y136 y137 w' hq
end Go.Proofs.Ythnaekmceakdaaa
