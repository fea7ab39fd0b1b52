/- mark: slices.Clone of numbers, copied. Conditions: as each says. -/
import Derived.Test.YtdcclighccejhaaMkB
import Derived.Test.YtdcclighccejhaaRtpF
set_option linter.unusedVariables false
namespace Go.Proofs.Ytdcclighccejhaa
open Go.RowKit

theorem Try.sizePq : (Try.prog.info? 42).map (·.size) = some 11 := by kernel_rfl
set_option maxRecDepth 100000 in
set_option maxHeartbeats 400000 in
theorem clone32_nil (w : World) : Calls Try.prog 46 #[.slice none 0 0] w fun e w' => e = .returned (.slice none 0 0) ∧ w = w' := by
  have hq := fun (w : World) => Lib.run_eql_slice_nil (P := Try.prog) w 39 38 none 0 0 0 0 Try.underlying39
  simp at hq
  go_enter Try.func46, Try.ntmps46
  go_wp2
  go_ret
  exact ⟨rfl, rfl⟩
/-- Numbers in new memory. -/
def Own32 (ns : List Nat) (w : World) (e : Ending) (w' : World) : Prop := ∃ v, e = .returned v ∧ w'.ownsRow w.heap.size 38 1 v ns.length (cells32 ns) ∧ Only (fun _ => False) w w'
set_option maxRecDepth 100000 in
set_option maxHeartbeats 400000 in
theorem clone32_some (a : Addr) (c : Nat) (ns : List Nat) (w : World) (hc : ∀ j u, (cells32 ns)[j]? = some u → w.cell? (a.add j) = some u) (hn : ns.length ≤ 1000000) :
    Calls Try.prog 46 #[.slice (some a) ns.length c] w (Own32 ns w) := by
  have hq := fun (w : World) => Lib.run_eql_slice_nil (P := Try.prog) w 39 38 (some a) ns.length c 0 0 Try.underlying39
  simp at hq
  obtain ⟨i0, hi, hz0, hz1, hz2⟩ := info_parts Try.infoU32
  have Hl := Lib.hid (show (cells32 ns).length = ns.length from length_cells32 ns)
  have H1 := Lib.hid (show ∀ u ∈ cells32 ns, u.oneCell' = true from by simp [cells32, Value.oneCell'])
  have Hz := Lib.hid (show ∀ j u, (cells32 ns)[j]? = some u → (w.alloc (.cells #[] 38)).cell? (a.add j) = some u from fun j u hu => Lib.cell?_alloc_some _ (hc j u hu))
  obtain ⟨news, hnews⟩ : ∃ x, cells32 ns = x := ⟨_, rfl⟩
  obtain ⟨n, hnn⟩ : ∃ n, ns.length = n := ⟨_, rfl⟩
  have HNW := Lib.hid hnews
  have HNL := Lib.hid hnn
  rw [hnews] at Hl H1 Hz
  rw [hnn] at Hl hn ⊢
  simp only [hnn] at hq
  clear hc hnews hnn
  go_enter Try.func46, Try.ntmps46
  go_wp2_with (at_builtin; refine wpList_append_own _ rfl _ _ 39 rfl w.heap.size 38 i0 (.int .u32 0) 1 4 Try.underlying39 hi hz0 hz1 hz2 rfl (by decide) _ 0 [] rfl (World.ownsRow_lit w #[] 0 (Nat.le_refl _) (by decide) rfl) a n c news rfl (by rw [Hl.out, Nat.mul_one]) Hz.out H1.out (by unfold maxLen; omega) (by omega) (by simp) ?_)
  intro v' w1 hown hg _
  go_wp2
  go_ret
  refine ⟨_, rfl, ?_, ?_⟩
  · rw [HNL.out, HNW.out]
    simpa using hown
  · exact ((Only.refl _ w).alloc _).grown hg (fun i hi hlt => by simp [Value.ownBlock] at hi; omega)
theorem clone32_is (v : Value) (ns : List Nat) (w : World) (hr : Rd .u32 w v (nats ns)) (hn0 : v = .slice none 0 0 ∨ ∃ ad n c, v = .slice (some ad) n c) (hn : ns.length ≤ 1000000) :
    Calls Try.prog 46 #[v] w (Own32 ns w) := by
  obtain ⟨A, c, rfl, hc, hh⟩ := hr
  rw [nats_length] at hc hn0 ⊢
  rcases hn0 with e | ⟨ad, n, c', e⟩
  · injection e with e1 e2 e3
    have e2' := e2
    obtain rfl := List.eq_nil_of_length_eq_zero e2
    subst e1 e3
    refine (clone32_nil w).mono ?_
    rintro e w' ⟨rfl, rfl⟩
    exact ⟨_, rfl, World.ownsRow_nil _ _ _ _, Only.refl _ _⟩
  · injection e with e1 e2 e3
    subst e1
    refine clone32_some ad c ns w (fun j u hu => ?_) hn
    have hj : j < ns.length := by rw [← length_cells32]; exact (List.getElem?_eq_some_iff.1 hu).1
    obtain ⟨b, o, e1, hcell⟩ := hh (by rw [nats_length]; omega)
    injection e1 with e1
    subst e1
    have h1 := hcell j (by rw [nats_length]; exact hj)
    rw [add_plain, h1, ← hu]
    simp [cells32, nats, hj]

def Pk.cls (p : Pk) (vc ve vp : Value) : Array Value := #[.bool p.marker, .int .u8 p.ty, .int .u16 p.seq, .int .u32 p.time, .int .u32 p.ssrc, vc, .bool p.hasExt, .int .u16 p.profile, ve, vp, .int .u8 p.pad]
def isSl (v : Value) : Prop := ∃ A n c, v = .slice A n c
theorem Pk.cls_one (p : Pk) {vc ve vp : Value} (h1 : isSl vc) (h2 : isSl ve) (h3 : isSl vp) : (p.cls vc ve vp).all (·.oneCell') = true := by
  obtain ⟨a1, a2, a3, rfl⟩ := h1
  obtain ⟨b1, b2, b3, rfl⟩ := h2
  obtain ⟨c1, c2, c3, rfl⟩ := h3
  simp [Pk.cls, Value.oneCell']
def zeroPk : Array Value := #[.bool false, .int .u8 0, .int .u16 0, .int .u32 0, .int .u32 0, .slice none 0 0, .bool false, .int .u16 0, .slice none 0 0, .slice none 0 0, .int .u8 0]
/-- A packet whose rows are its own. -/
def OwnPk (B : Nat) (p : Pk) (vc ve vp : Value) (w' : World) : Prop :=
  w'.ownsRow B 38 1 vc p.csrc.length (cells32 p.csrc) ∧ w'.ownsRow B 5 1 ve p.ext.length (cellsOf p.ext) ∧ w'.ownsRow B 5 1 vp p.pay.length (cellsOf p.pay)
theorem OwnPk.only {B : Nat} {p : Pk} {vc ve vp : Value} {w w' : World} (h : OwnPk B p vc ve vp w) (ho : Only (fun _ => False) w w') : OwnPk B p vc ve vp w' :=
  ⟨own_only h.1 ho (by simp), own_only h.2.1 ho (by simp), own_only h.2.2 ho (by simp)⟩
def GotCopy (p : Pk) (w : World) (e : Ending) (w' : World) : Prop := ∃ vc ve vp, e = .returned (.agg (p.cls vc ve vp)) ∧ OwnPk w.heap.size p vc ve vp w' ∧ Only (fun _ => False) w w'
theorem own_isSl {w : World} {B n : Nat} {t : TypeId} {v : Value} {xs : List Value} (h : w.ownsRow B t 1 v n xs) : isSl v := by
  rcases h.2 with ⟨rfl, rfl⟩ | ⟨g, cap, cur, rfl, _⟩
  · exact ⟨none, 0, 0, rfl⟩
  · exact ⟨_, _, _, rfl⟩
/-- A field of a packet is written. -/
theorem pk_set {w w0 : World} {g : Nat} {cs cs' : Array Value} (h : Is w g 42 cs) (i : Nat) (v : Value) (hd : cs.setIfInBounds i v = cs') : Is (w.setCell ⟨g, i, none⟩ v) g 42 cs' ∧ Only (fun k => k = g) w (w.setCell ⟨g, i, none⟩ v) := by
  rw [← hd]
  exact ⟨h.put i v, Only.set (S := fun k => k = g) (p := ⟨g, i, none⟩) (Only.refl _ w) (fun _ => rfl) v⟩

end Go.Proofs.Ytdcclighccejhaa
