/- rtcp: splitOne. Conditions: as each says. -/
import Derived.Test.YtefcimkopgcagaaBase
import Derived.Deep.DeepCutAuto
import Derived.Deep.DrawnRows
import Derived.StillTailTactics
import Derived.Laws.BitsAllLaws
set_option linter.unusedVariables false
namespace Go.Proofs.Ytefcimkopgcagaa
open Go.RowKit

def zeroP : Array Value := #[.int .u8 0, .int .u8 0, .slice none 0 0, .int .u8 0]
theorem zeroP_one : zeroP.all (·.oneCell') = true := by simp [zeroP, Value.oneCell']
theorem Try.sizeRc : (Try.prog.info? 41).map (·.size) = some 4 := by kernel_rfl
/-- What is answered of a struct and two values. -/
theorem results_three {P : Program} {fn : Func} {p q r : Tmp} {ty : TypeId} (h : fn.results = #[.cell p ty, .tmp q, .tmp r]) (tmps : Array Value) (w : World) (g : Nat) (t : TypeId) (cs : Array Value) (d : TypeDesc) (x y : Value)
    (hp : tmps.getD p undef = .pointer (some ⟨g, 0, none⟩)) (hq : tmps.getD q undef = x) (hr : tmps.getD r undef = y) (hg : Is w g t cs)
    (hu : P.underlying ty = some d) (hd : (match d with | .struct _ | .array _ _ => true | _ => false) = true) (hi : (P.info? ty).map (·.size) = some cs.size) :
    (results fn tmps).run P w = .ok (.tuple #[.agg cs, x, y]) w := by
  have hp' : tmps[p]?.getD undef = .pointer (some ⟨g, 0, none⟩) := by simpa using hp
  have hq' : tmps[q]?.getD undef = x := by simpa using hq
  have hr' : tmps[r]?.getD undef = y := by simpa using hr
  simp [results, h, hp', hq', hr', asAddr, run_loadVar_row w g t ty cs (0, 0) d hg hu hd hi]
theorem only_made {w w1 : World} {o : Obj} (h : Only (fun k => k = w.heap.size) (w.alloc o) w1) : Only (fun _ => False) w w1 :=
  ((Only.refl _ w).alloc o).trans h (fun i hi e => by omega)

def w16 (bs : List Nat) : Nat := bt bs 2 * 256 + bt bs 3
def oneSz (bs : List Nat) : Nat := 4 + 4 * w16 bs
def oneBody (bs : List Nat) : List Nat := (bs.drop 4).take (4 * w16 bs)
def padFlag (bs : List Nat) : Bool := bt bs 0 / 32 % 2 == 1
def oneErr (bs : List Nat) (leads : Bool) : Nat :=
  if bs.length < 4 then 10
  else if bt bs 0 / 64 ≠ 2 then 20
  else if (leads && !(bt bs 1 == 200 || bt bs 1 == 201)) = true then 60
  else if bs.length < oneSz bs then 61
  else if padFlag bs = true ∧ (padOk (oneBody bs) = false ∨ oneSz bs < bs.length) then 21
  else 0

theorem i64_or_small (a b : Nat) (ha : a < 65536) (hb : b < 65536) : bits .or .i64 (a : Int) (b : Int) = ((a ||| b : Nat) : Int) := by
  have hx : a ||| b < 2 ^ 16 := Nat.or_lt_two_pow (by omega) (by omega)
  show IntKind.i64.wrap ((BitVec.ofInt 64 (a : Int) ||| BitVec.ofInt 64 (b : Int)).toNat : Int) = _
  rw [BitVec.toNat_or, BitVec.ofInt_natCast, BitVec.ofInt_natCast, BitVec.toNat_ofNat, BitVec.toNat_ofNat, Nat.mod_eq_of_lt (by omega), Nat.mod_eq_of_lt (by omega)]
  exact IntWalk.i64_in _ (by omega)
theorem shift_or (a b : Nat) (ha : a < 256) (hb : b < 256) : bits .or .i64 ((a : Int) * 256) (b : Int) = ((a * 256 + b : Nat) : Int) := by
  have e := i64_or_small (a * 256) b (by omega) (by omega)
  have h := Nat.two_pow_add_eq_or_of_lt (i := 8) (b := b) (by omega) a
  rw [show ((a : Int) * 256) = ((a * 256 : Nat) : Int) from by omega, e, show a * 256 = 2 ^ 8 * a from by omega, ← h]
theorem u8_and31 (x : Nat) (h : x < 256) : bits .and .u8 (x : Int) 31 = ((x % 32 : Nat) : Int) := by
  have : ∀ i : Fin 256, bits .and .u8 ((i.val : Nat) : Int) 31 = ((i.val % 32 : Nat) : Int) := by decide +kernel
  exact this ⟨x, h⟩
theorem u8_and32 (x : Nat) (h : x < 256) : (bits .and .u8 (x : Int) 32 != 0) = (x / 32 % 2 == 1) := by
  have : ∀ i : Fin 256, (bits .and .u8 ((i.val : Nat) : Int) 32 != 0) = (i.val / 32 % 2 == 1) := by decide +kernel
  exact this ⟨x, h⟩
def headP (bs : List Nat) : Array Value := #[.int .u8 (bt bs 0 % 32 : Nat), .int .u8 (bt bs 1 : Nat), .slice none 0 0, .int .u8 0]
theorem headP_one (bs : List Nat) : (headP bs).all (·.oneCell') = true := by simp [headP, Value.oneCell']

def onePad (bs : List Nat) : Nat := if padFlag bs then bt (oneBody bs) ((oneBody bs).length - 1) else 0
def oneRest (bs : List Nat) : List Nat := (oneBody bs).take ((oneBody bs).length - onePad bs)
/-- What splitOne answers. -/
def OneEnd (er : Nat) (bs : List Nat) (w : World) (e : Ending) (w' : World) : Prop :=
  Only (fun _ => False) w w' ∧ ((er ≠ 0 ∧ e = .returned (.tuple #[.agg zeroP, .int .i64 0, .int .i64 er])) ∨
    (er = 0 ∧ ∃ u, e = .returned (.tuple #[.agg #[.int .u8 (bt bs 0 % 32 : Nat), .int .u8 (bt bs 1 : Nat), u, .int .u8 (onePad bs : Nat)], .int .i64 (oneSz bs : Nat), .int .i64 0]) ∧ w'.ownsRow w.heap.size 5 1 u (oneRest bs).length (cellsOf (oneRest bs))))

end Go.Proofs.Ytefcimkopgcagaa
