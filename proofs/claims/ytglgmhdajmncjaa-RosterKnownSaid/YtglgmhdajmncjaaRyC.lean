/- roster: has, Source, All, Ids. Conditions: as each says. -/
import Derived.Test.YtglgmhdajmncjaaRyB
set_option linter.unusedVariables false
set_option linter.unusedSimpArgs false
namespace Go.Proofs.Ytglgmhdajmncjaa
open Go Go.RowKit

theorem beq_nat' (a b : Nat) : ((a : Int) == (b : Int)) = decide (a = b) := by
  rw [Bool.eq_iff_iff]
  simp
  omega
theorem results_is3 {P : Program} {fn : Func} {p q s : Tmp} {ty : TypeId} (h : fn.results = #[.cell p ty, .tmp q, .tmp s]) (tmps : Array Value) (w : World) (g : Nat) (t : TypeId) (cs : Array Value) (d : TypeDesc) (x y : Value)
    (hp : tmps.getD p undef = .pointer (some ⟨g, 0, none⟩)) (hq : tmps.getD q undef = x) (hs : tmps.getD s undef = y) (hg : Is w g t cs)
    (hu : P.underlying ty = some d) (hd : (match d with | .struct _ | .array _ _ => true | _ => false) = true) (hi : (P.info? ty).map (·.size) = some cs.size) :
    (results fn tmps).run P w = .ok (.tuple #[.agg cs, x, y]) w := by
  have hp' : tmps[p]?.getD undef = .pointer (some ⟨g, 0, none⟩) := by simpa using hp
  have hq' : tmps[q]?.getD undef = x := by simpa using hq
  have hs' : tmps[s]?.getD undef = y := by simpa using hs
  simp [results, h, hp', hq', hs', asAddr, run_loadVar_row w g t ty cs (0, 0) d hg hu hd hi]
section
variable {w : World} {B b mb : Nat} {r : Ro} {vl : Value} {id : Int} {m : Mb}
theorem get_some (h : Ror w B b mb r vl) (hl : r.l.length ≤ 1000) (hm : getM r.l id = some m) : Calls Try.prog 27 #[ptr b, .int .i64 id] w (SaysR (.tuple #[mbV m, .bool true]) w) := by
  have := get_is B b mb id r vl w h hl
  rw [hm] at this
  exact this
theorem get_no (h : Ror w B b mb r vl) (hl : r.l.length ≤ 1000) (hm : getM r.l id = none) : Calls Try.prog 27 #[ptr b, .int .i64 id] w (SaysR (.tuple #[mbV mb0, .bool false]) w) := by
  have := get_is B b mb id r vl w h hl
  rw [hm] at this
  exact this
end
set_option maxRecDepth 100000 in
set_option maxHeartbeats 1000000 in
theorem rhas_is (B b mb : Nat) (id : Int) (r : Ro) (vl : Value) (w : World) (h : Ror w B b mb r vl) (hl : r.l.length ≤ 1000) : Calls Try.prog 59 #[ptr b, .int .i64 id] w (SaysR (.bool (getM r.l id).isSome) w) := by
  rcases hm : getM r.l id with _ | m
  · have HG := Lib.hid (get_no h hl hm)
    clear h hm
    go_enter Try.func59, Try.ntmps59
    go_wp2_with fail
    refine HG.out.mono ?_
    rintro e w1 ⟨rfl, ho⟩
    have HO := Lib.hid ho
    clear ho HG
    go_wp2
    go_ret
    exact ⟨rfl, HO.out.alloc _⟩
  · have HG := Lib.hid (get_some h hl hm)
    clear h hm
    go_enter Try.func59, Try.ntmps59
    go_wp2_with fail
    refine HG.out.mono ?_
    rintro e w1 ⟨rfl, ho⟩
    have HO := Lib.hid ho
    clear ho HG
    go_wp2
    go_ret
    exact ⟨rfl, HO.out.alloc _⟩
def srcV (o : Option Mb) (s : Nat) : Value := match o with
  | some m => .tuple #[mbV m, .bool (decide (m.co = s)), .bool true]
  | none => .tuple #[mbV mb0, .bool false, .bool false]
set_option maxRecDepth 100000 in
set_option maxHeartbeats 1000000 in
theorem source_nil (s : Nat) (w : World) : Calls Try.prog 28 #[.pointer none, .int .u32 (s : Int)] w (SaysR (srcV none s) w) := by
  go_enter Try.func28, Try.ntmps28
  go_wp2_with fail
  refine (rthere_nil _).mono ?_
  rintro e w1 ⟨rfl, rfl⟩
  go_wp2
  refine bodyPost_ret (results_is3 Try.results28 _ _ w.heap.size 58 _ _ (.bool false) (.bool false) rfl rfl rfl (Is.made w _ zeroMb) Try.underlying58 rfl Try.sizeMb) rfl ?_
  exact ⟨rfl, (Only.refl _ w).alloc _⟩
set_option maxRecDepth 100000 in
set_option maxHeartbeats 4000000 in
theorem source_is (B b mb s : Nat) (r : Ro) (vl : Value) (w : World) (h : Ror w B b mb r vl) (hf : r.Fit) (hs : s < 4294967296) : Calls Try.prog 28 #[ptr b, .int .u32 (s : Int)] w (SaysR (srcV (ownM r.l s) s) w) := by
  have hl : r.l.length ≤ 1000 := by have := hf.few; have := hf.most; omega
  have HW := Lib.hid (owned_is B b mb s r vl (w.alloc (.cells zeroMb 58)) (h.pure ((Only.refl _ w).alloc _)) hs)
  have H1 := Lib.hid (h.pure ((Only.refl _ w).alloc (.cells zeroMb 58)))
  have HR := Lib.hid (Is.made w 58 zeroMb)
  have HO := Lib.hid ((Only.refl (fun _ => False) w).alloc (.cells zeroMb 58))
  obtain ⟨rb, hrb⟩ : ∃ rb, w.heap.size = rb := ⟨_, rfl⟩
  have HRB := Lib.hid hrb
  have HI := Lib.hid hf
  clear h hf
  go_enter Try.func28, Try.ntmps28
  go_wp2_with fail
  show Calls _ _ _ (w.alloc (.cells zeroMb 58)) _
  rw [hrb] at HR
  generalize w.alloc (.cells zeroMb 58) = w2 at *
  clear hrb
  refine (rthere_is B b mb r _ w2 H1.out).mono ?_
  rintro e w1 ⟨rfl, rfl⟩
  go_wp2_with fail
  refine HW.out.mono ?_
  rintro e w1 ⟨rfl, rfl⟩
  clear HW
  rcases hm : ownM r.l s with _ | m
  · have HE := Lib.hid hm
    clear hm
    go_wp2_with (refine wpList_store_is rfl 58 _ _ rfl rb zeroMb rfl rfl _ _ HR.out Try.sizeMb rfl (by simp [Value.oneCell', zeroMb]) ?_; intro w4 hI4 hO5; replace hI4 := Lib.hid hI4; replace hO5 := Lib.hid hO5)
    refine bodyPost_ret (results_is3 Try.results28 _ w4 rb 58 _ _ (.bool false) (.bool false) rfl rfl rfl hI4.out Try.underlying58 rfl Try.sizeMb) rfl ?_
    refine ⟨by rw [HE.out]; rfl, HO.out.trans hO5.out (fun i hi e => ?_)⟩
    have := HRB.out; omega
  · have HM := Lib.hid (show getM r.l m.id = some m from getM_of HI.out.ids (ownM_mem hm).1)
    have hL := Lib.hid (show (mget (owV r.l) s).getD (.int .i64 0) = .int .i64 m.id from by rw [mget_own, hm]; rfl)
    have hw3 := Lib.hid (wfU32 hs)
    have hmp := Lib.hid H1.out.mp
    have c2 : w2.cell? ⟨b, 2, none⟩ = some (.map (some mb)) := H1.out.cell 2
    have HE := Lib.hid hm
    clear hm
    go_wp2_with (at_lookup; refine wpList_mlookF rfl _ _ 107 rfl 30 3 Try.underlying107 Try.underlying30 (zero_int _) rfl hmp.out rfl hw3.out hL.out ?_)
    refine (get_some H1.out hl HM.out).mono ?_
    rintro e w3 ⟨rfl, ho⟩
    have HO3 := Lib.hid ho
    have HI3 := Lib.hid (HR.out.only ho (by simp))
    clear ho
    go_upto_region 4 with (refine wpList_store_is rfl 58 _ _ rfl rb #[.int .i64 m.id, .int .u32 (m.co : Int), .int .u32 (m.ca : Int), .bool m.mo] rfl rfl _ _ HI3.out Try.sizeMb rfl (by simp [Value.oneCell']) ?_; intro w4 hI4 hO5; replace hI4 := Lib.hid hI4; replace hO5 := Lib.hid hO5)
    have c1 : w4.cell? ⟨rb, 1, none⟩ = some (.int .u32 (m.co : Int)) := hI4.out.cell 1
    have hq := Lib.hid (beq_nat' m.co s)
    go_wp2_with (first
      | (refine wpList_load_row (o := ⟨some 28, _, _, _, _, _⟩) rfl _ _ rfl rb rfl _ _ _ _ hI4.out Try.underlying58 rfl Try.sizeMb ?_)
      | (refine wpList_store_is rfl 58 _ _ rfl rb #[.int .i64 m.id, .int .u32 (m.co : Int), .int .u32 (m.ca : Int), .bool m.mo] rfl rfl _ _ hI4.out Try.sizeMb rfl (by simp [Value.oneCell']) ?_; intro w5 hI5 hO6; replace hI5 := Lib.hid hI5; replace hO6 := Lib.hid hO6))
    refine bodyPost_ret (results_is3 Try.results28 _ w5 rb 58 _ _ (.bool ((m.co : Int) == (s : Int))) (.bool true) rfl rfl rfl hI5.out Try.underlying58 rfl Try.sizeMb) rfl ?_
    refine ⟨by rw [hq.out, HE.out]; rfl, ((HO.out.trans HO3.out (fun _ _ e => e)).trans hO5.out (fun i hi e => ?_)).trans hO6.out (fun i hi e => ?_)⟩
    · have := HRB.out; omega
    · have := HRB.out; omega
end Go.Proofs.Ytglgmhdajmncjaa
