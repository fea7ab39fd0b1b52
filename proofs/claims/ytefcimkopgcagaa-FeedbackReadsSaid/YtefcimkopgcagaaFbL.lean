/- The sorts' table; one of them. Conditions: as each says. -/
import Derived.Test.YtefcimkopgcagaaFbE
import Derived.Laws.Tables
set_option linter.unusedVariables false
namespace Go.Proofs.Ytefcimkopgcagaa
open Go.RowKit

theorem fb_made {w w' : World} {o : Obj} (h : Only (fun k => k = w.heap.size) (w.alloc o) w') : Only (fun _ => False) w w' := ((Only.refl _ w).alloc o).trans h (fun i hi e => by omega)
def mkSrt (kind count : Int) (name : ByteArray) (p q o r s t e f m n : Int) (a b : Value) : List Value :=
  [.int .u8 kind, .int .u8 count, .string name, .int .i64 p, .int .i64 q, .int .i64 o, .int .i64 r, .int .i64 s, .int .i64 t, .int .i64 e, .int .i64 f, .int .i64 m, .int .i64 n, a, b]
def fnV (n : Nat) : Value := .func (.func n) #[] #[]
def srt : Nat → List Value
  | 1 => mkSrt 205 1 ⟨#[]⟩ 1 65533 0 0 0 0 0 0 0 0 (fnV 69) (fnV 70)
  | 2 => mkSrt 206 1 ⟨#[]⟩ 0 0 0 0 0 0 0 0 0 0 (fnV 71) (fnV 72)
  | 3 => mkSrt 206 4 ⟨#[]⟩ 0 0 1 32766 0 0 0 0 0 0 (fnV 73) (fnV 74)
  | 4 => mkSrt 206 15 ⟨#[82, 69, 77, 66]⟩ 0 0 0 0 0 255 0 63 0 262143 (fnV 75) (fnV 76)
  | _ => mkSrt 0 0 ⟨#[]⟩ 0 0 0 0 0 0 0 0 0 0 .nilFunc .nilFunc
def sortsC : Array Value := (srt 0 ++ srt 1 ++ srt 2 ++ srt 3 ++ srt 4).toArray
section
variable {P : Program} {ops : Array Oper} {rest : List Oper} {o : Oper} {a : Act} {w : World} {Q : Exit → Act → World → Prop}
theorem wpList_build_is (hg : o.guard = none) (t : TypeId) (parts : Array (Nat × Operand)) (ho : o.op = .build t parts) (cells : Array Value)
    (hc : P.built t (parts.map fun (i, x) => (i, a.eval x)).toList = some cells)
    (h : wpList P ops Q rest (a.put o.dst (.agg cells)) w) : wpList P ops Q (o :: rest) a w := by
  refine wpList_build hg t parts ho (by rw [hc]; rfl) ?_
  rw [hc]
  exact h
end
theorem res_alone {P : Program} {fn : Func} {p : Tmp} {ty : TypeId} (h : fn.results = #[.cell p ty]) (tmps : Array Value) (w : World) (g : Nat) (t : TypeId) (cs : Array Value) (d : TypeDesc)
    (hp : tmps.getD p undef = .pointer (some ⟨g, 0, none⟩)) (hg : Is w g t cs)
    (hu : P.underlying ty = some d) (hd : (match d with | .struct _ | .array _ _ => true | _ => false) = true) (hi : (P.info? ty).map (·.size) = some cs.size) :
    (results fn tmps).run P w = .ok (.agg cs) w := by
  have hp' : tmps[p]?.getD undef = .pointer (some ⟨g, 0, none⟩) := by simpa using hp
  simp [results, h, hp', asAddr, run_loadVar_row w g t ty cs (0, 0) d hg hu hd hi]
theorem Try.sizeSorts : (Try.prog.info? 120).map (·.size) = some sortsC.size := by kernel_rfl

theorem sorts_hold : Try.zeroCells120.size = sortsC.size := by kernel_rfl
theorem sorts_one : sortsC.all (·.oneCell') = true := by kernel_rfl
set_option maxRecDepth 100000 in
set_option maxHeartbeats 1000000 in
theorem sorts_is (w : World) : Calls Try.prog 63 #[] w fun e w' => e = .returned (.agg sortsC) ∧ Only (fun _ => False) w w' := by
  go_enter Try.func63, Try.ntmps63
  go_wp2_with (first
    | (refine wpList_build_is (o := ⟨some 10, _, _, _, _, _⟩) rfl _ _ rfl sortsC (by kernel_rfl) ?_)
    | (refine wpList_store_is rfl 120 _ _ rfl w.heap.size sortsC rfl rfl 120 Try.zeroCells120 (Is.made w _ Try.zeroCells120) Try.sizeSorts sorts_hold sorts_one ?_; intro w5 hi5 ho5; have O5 := Lib.hid (fb_made ho5); have I5 := Lib.hid hi5; clear hi5 ho5))
  exact bodyPost_ret (res_alone Try.results63 _ w5 w.heap.size 120 sortsC _ rfl I5.out Try.underlying120 rfl Try.sizeSorts) rfl ⟨rfl, O5.out⟩
/-- The value of one of them. -/
def srtV (s : Nat) : Array Value := (srt s).toArray
theorem Try.sizeSort : (Try.prog.info? 93).map (·.size) = some 15 := by kernel_rfl
theorem srt_size (s : Nat) (h1 : 1 ≤ s) (h4 : s ≤ 4) : (Try.prog.info? 93).map (·.size) = some (srtV s).size := by
  rw [Try.sizeSort]
  have : s = 1 ∨ s = 2 ∨ s = 3 ∨ s = 4 := by omega
  rcases this with rfl | rfl | rfl | rfl <;> rfl
theorem srt_hold (s : Nat) (h1 : 1 ≤ s) (h4 : s ≤ 4) : (srtV 0).size = (srtV s).size := by
  have : s = 1 ∨ s = 2 ∨ s = 3 ∨ s = 4 := by omega
  rcases this with rfl | rfl | rfl | rfl <;> rfl
theorem srt_one (s : Nat) (h1 : 1 ≤ s) (h4 : s ≤ 4) : (srtV s).all (·.oneCell') = true := by
  have : s = 1 ∨ s = 2 ∨ s = 3 ∨ s = 4 := by omega
  rcases this with rfl | rfl | rfl | rfl <;> simp [srtV, srt, mkSrt, fnV, Value.oneCell']
theorem res_pair {P : Program} {fn : Func} {p q : Tmp} {ty : TypeId} (h : fn.results = #[.cell p ty, .tmp q]) (tmps : Array Value) (w : World) (g : Nat) (t : TypeId) (cs : Array Value) (d : TypeDesc) (v : Value)
    (hp : tmps.getD p undef = .pointer (some ⟨g, 0, none⟩)) (hq : tmps.getD q undef = v) (hg : Is w g t cs)
    (hu : P.underlying ty = some d) (hd : (match d with | .struct _ | .array _ _ => true | _ => false) = true) (hi : (P.info? ty).map (·.size) = some cs.size) :
    (results fn tmps).run P w = .ok (.tuple #[.agg cs, v]) w := by
  have hp' : tmps[p]?.getD undef = .pointer (some ⟨g, 0, none⟩) := by simpa using hp
  have hq' : tmps[q]?.getD undef = v := by simpa using hq
  simp [results, h, hp', hq', asAddr, run_loadVar_row w g t ty cs (0, 0) d hg hu hd hi]
theorem sorts_at (s : Nat) (w : World) (h1 : 1 ≤ s) (h4 : s ≤ 4) : (Instr.index 120 (.agg sortsC) (.int .u8 (s : Nat))).run Try.prog w = .ok (.agg (srtV s)) w := by
  have : s = 1 ∨ s = 2 ∨ s = 3 ∨ s = 4 := by omega
  rcases this with rfl | rfl | rfl | rfl <;> (simp [Instr.index, go_sem]; rfl)
set_option maxRecDepth 100000 in
set_option maxHeartbeats 1000000 in
theorem sortof_is (s : Nat) (w : World) (h1 : 1 ≤ s) (h4 : s ≤ 4) : Calls Try.prog 43 #[.int .u8 s] w fun e w' => e = .returned (.tuple #[.agg (srtV s), .bool true]) ∧ Only (fun _ => False) w w' := by
  go_enter Try.func43, Try.ntmps43
  have z1 : ¬ (s : Int) < 1 := by omega
  have z4 : ¬ (4 : Int) < (s : Int) := by omega
  go_wp2_with (go_at_call 63; refine (sorts_is _).mono ?_; rintro e w1 ⟨rfl, ho1⟩; have O1 := Lib.hid ho1; clear ho1)
  rw [sorts_at s _ h1 h4]
  go_wp2_with (refine wpList_store_is rfl 93 _ _ rfl w.heap.size (srtV s) rfl rfl 93 (srtV 0) ((Is.made w _ (srtV 0)).only O1.out (by simp)) (srt_size s h1 h4) (srt_hold s h1 h4) (srt_one s h1 h4) ?_; intro w5 hi5 ho5; have O5 := Lib.hid ho5; have I5 := Lib.hid hi5; clear hi5 ho5)
  exact bodyPost_ret (res_pair Try.results43 _ w5 w.heap.size 93 (srtV s) _ (.bool true) rfl rfl I5.out Try.underlying93 rfl (srt_size s h1 h4)) rfl ⟨rfl, (((Only.refl _ w).alloc _).trans O1.out (fun i hi e => e)).trans O5.out (fun i hi e => by omega)⟩
end Go.Proofs.Ytefcimkopgcagaa
