/- mark: markings, plainly; two compared; firstByte, short, Right, Put, parseFirst, Parse. Conditions: as each says. -/
import Derived.Test.YtdcclighccejhaaExA
import Derived.Test.YtdcclighccejhaaBase
import Derived.Laws.StructEq
set_option linter.unusedVariables false
namespace Go.Proofs.Ytdcclighccejhaa
open Go.RowKit

/-- A marking, plainly. -/
structure Mk where
  st : Bool
  en : Bool
  ind : Bool
  dr : Bool
  lg : Bool
  ba : Bool
  tid : Nat
  lid : Nat
  tl : Nat
def Mk.cells (m : Mk) : Array Value := #[.bool m.st, .bool m.en, .bool m.ind, .bool m.dr, .bool m.lg, .bool m.ba, .int .u8 (m.tid : Nat), .int .u8 (m.lid : Nat), .int .u8 (m.tl : Nat)]
theorem Mk.one (m : Mk) : m.cells.all (·.oneCell') = true := by simp [Mk.cells, Value.oneCell']
def Mk.zero : Mk := ⟨false, false, false, false, false, false, 0, 0, 0⟩
structure Mk.Fit (m : Mk) : Prop where
  tid : m.tid < 256
  lid : m.lid < 256
  tl : m.tl < 256
def Mk.low (m : Mk) : Mk := ⟨m.st, m.en, m.ind, m.dr, false, false, 0, 0, 0⟩
def Mk.right (m : Mk) : Bool := decide (m.tid ≤ 7) && (m.lg || (!m.ba && decide (m.tid = 0) && decide (m.lid = 0) && decide (m.tl = 0)))
def Mk.same (d e : Mk) : Bool := d.st == e.st && d.en == e.en && d.ind == e.ind && d.dr == e.dr && d.lg == e.lg && d.ba == e.ba && d.tid == e.tid && d.lid == e.lid && d.tl == e.tl
theorem Mk.same_iff (d e : Mk) : d.same e = true ↔ d = e := by
  obtain ⟨a1, a2, a3, a4, a5, a6, a7, a8, a9⟩ := d
  obtain ⟨b1, b2, b3, b4, b5, b6, b7, b8, b9⟩ := e
  simp [Mk.same, and_assoc]
theorem Mk.same_self (d : Mk) : d.same d = true := (Mk.same_iff d d).2 rfl
theorem Mk.right_low (m : Mk) (h : m.lg = false) (h7 : m.tid ≤ 7) : m.same m.low = m.right := by
  obtain ⟨a1, a2, a3, a4, a5, a6, a7, a8, a9⟩ := m
  simp only at h h7
  subst h
  rw [Bool.eq_iff_iff, Mk.same_iff]
  simp [Mk.low, Mk.right, h7, and_assoc]
def bn (b : Bool) (n : Nat) : Nat := if b then n else 0
def Mk.first (m : Mk) : Nat := bn m.st 128 + bn m.en 64 + bn m.ind 32 + bn m.dr 16 + bn m.ba 8 + m.tid
def Mk.enc (m : Mk) : List Nat := if m.lg then [m.first, m.lid, m.tl] else [m.first]
def mkErr (bs : List Nat) : Nat := if bs.length = 3 then 0 else if bs.length = 1 ∧ bt bs 0 % 16 = 0 then 0 else 40
def mkOf (bs : List Nat) : Mk :=
  if bs.length = 3 then ⟨hasb (bt bs 0) 128, hasb (bt bs 0) 64, hasb (bt bs 0) 32, hasb (bt bs 0) 16, true, hasb (bt bs 0) 8, bt bs 0 % 8, bt bs 1, bt bs 2⟩
  else if bs.length = 1 ∧ bt bs 0 % 16 = 0 then ⟨hasb (bt bs 0) 128, hasb (bt bs 0) 64, hasb (bt bs 0) 32, hasb (bt bs 0) 16, false, false, 0, 0, 0⟩ else Mk.zero
/-- What a first byte tells. -/
def mkFirst (b : Nat) : Mk := ⟨hasb b 128, hasb b 64, hasb b 32, hasb b 16, false, hasb b 8, b % 8, 0, 0⟩

theorem mk_chain (p : Prop) [Decidable p] (b : Bool) (w : World) : (if p then Result.ok (Value.bool b) w else Result.ok (Value.bool false) w) = Result.ok (Value.bool (decide p && b)) w := by
  by_cases h : p <;> simp [h]
/-- What is answered of a struct alone. -/
theorem res_one {P : Program} {fn : Func} {p : Tmp} {ty : TypeId} (h : fn.results = #[.cell p ty]) (tmps : Array Value) (w : World) (g : Nat) (t : TypeId) (cs : Array Value) (d : TypeDesc)
    (hp : tmps.getD p undef = .pointer (some ⟨g, 0, none⟩)) (hg : Is w g t cs)
    (hu : P.underlying ty = some d) (hd : (match d with | .struct _ | .array _ _ => true | _ => false) = true) (hi : (P.info? ty).map (·.size) = some cs.size) :
    (results fn tmps).run P w = .ok (.agg cs) w := by
  have hp' : tmps[p]?.getD undef = .pointer (some ⟨g, 0, none⟩) := by simpa using hp
  simp [results, h, hp', asAddr, run_loadVar_row w g t ty cs (0, 0) d hg hu hd hi]

/-- A flag is put. -/
def fbit (x : Bool) (flag b : Int) : Int := if x then bits .or .u8 b flag else b
theorem fbits_is (m : Mk) (h : m.tid ≤ 7) : fbit m.ba 8 (fbit m.dr 16 (fbit m.ind 32 (fbit m.en 64 (fbit m.st 128 (m.tid : Int))))) = ((m.first : Nat) : Int) := by
  obtain ⟨a1, a2, a3, a4, a5, a6, a7, a8, a9⟩ := m
  have : ∀ (i : Fin 8) (b1 b2 b3 b4 b6 : Bool), fbit b6 8 (fbit b4 16 (fbit b3 32 (fbit b2 64 (fbit b1 128 ((i.val : Nat) : Int))))) = ((bn b1 128 + bn b2 64 + bn b3 32 + bn b4 16 + bn b6 8 + i.val : Nat) : Int) := by decide +kernel
  exact this ⟨a7, by simp only at h; omega⟩ a1 a2 a3 a4 a6

end Go.Proofs.Ytdcclighccejhaa
