/- floor: the statements' does, of a floor that is there. Conditions: as each says. -/
import Derived.Test.YtelfeedaadkhnaaFoB
import Derived.Test.YtelfeedaadkhnaaFlM
set_option linter.unusedVariables false
set_option linter.unusedSimpArgs false
namespace Go.Proofs.Ytelfeedaadkhnaa
open Go Go.RowKit

def actC (d : Int) (who other : Nat) (flag : Bool) (by_ : Nat) : Array Value := #[.int .i64 d, .int .u32 (who : Int), .int .u32 (other : Int), .bool flag, .int .u8 (by_ : Int)]
/-- What does leaves. -/
def Does (m' : Fl × Nat) (w : World) (b mb : Nat) (S : Nat → Prop) (wx : World) (e : Ending) (w' : World) : Prop := e = .returned (.int .i64 (m'.2 : Int)) ∧ Fs w b mb m'.1 S w' ∧ Only (fun k => ¬ S k) wx w'
theorem does_fs (w : World) (b mb : Nat) (m : Fl) (S : Nat → Prop) (wx : World) (d : Int) (who other now by_ : Nat) (flag : Bool) (p : Nat) (hd : -9223372036854775808 ≤ d ∧ d ≤ 9223372036854775807) (hp : d % 9 = (p : Int))
    (h : Fs w b mb m S wx) (h1 : who < 4294967296) (h2 : other < 4294967296) (h3 : now < 18446744073709551616) (h4 : m.heard < 18446744073709551616) (hg : m.gs.length ≤ 10000) (hw : m.wt.length ≤ 1000) (hb : m.bound ≤ 32) :
    Calls Try.prog 11 #[ptr b, actV d who other flag by_, .int .u64 (now : Int)] wx (Does (m.act who other now flag p) w b mb S wx) := by
  have ho : Only (fun k => ¬ S k) wx (wx.alloc (.cells (actC d who other flag by_) 40)) := (Only.refl _ wx).alloc _
  have h' : Fs w b mb m S (wx.alloc (.cells (actC d who other flag by_) 40)) := h.go ((Only.refl _ wx).alloc _)
  have hp9 : p < 9 := by omega
  have key : ∀ (f : Nat) (args : Array Value) (v : Value) (m' : Fl) (c : Nat), v = .int .i64 (c : Int) → (∀ vw vg, Flr (wx.alloc (.cells (actC d who other flag by_) 40)) w.heap.size b mb m vw vg → Calls Try.prog f args (wx.alloc (.cells (actC d who other flag by_) 40)) (DoneT v (wx.alloc (.cells (actC d who other flag by_) 40)) w.heap.size b mb vw vg m')) →
      Calls Try.prog f args (wx.alloc (.cells (actC d who other flag by_) 40)) fun e w' => ∃ v, e = .returned v ∧ (v = .int .i64 (c : Int) ∧ Fs w b mb m' S w' ∧ Only (fun k => ¬ S k) wx w') := by
    rintro f args v m' c rfl H
    refine (fs_of h' H).mono ?_
    rintro e w' ⟨rfl, k1, k2⟩
    exact ⟨_, rfl, rfl, k1, ho.trans k2 (fun _ _ e => e)⟩
  have keyb : ∀ (f : Nat) (args : Array Value) (m' : Fl) (r : Bool), (∀ vw vg, Flr (wx.alloc (.cells (actC d who other flag by_) 40)) w.heap.size b mb m vw vg → Calls Try.prog f args (wx.alloc (.cells (actC d who other flag by_) 40)) (DoneT (.bool r) (wx.alloc (.cells (actC d who other flag by_) 40)) w.heap.size b mb vw vg m')) →
      Calls Try.prog f args (wx.alloc (.cells (actC d who other flag by_) 40)) fun e w' => ∃ b' : Bool, e = .returned (.bool b') ∧ (Value.int .i64 (if b' then 1001 else 1000) = .int .i64 (((if r then 1001 else 1000 : Nat)) : Int) ∧ Fs w b mb m' S w' ∧ Only (fun k => ¬ S k) wx w') := by
    intro f args m' r H
    refine (fs_of h' H).mono ?_
    rintro e w' ⟨rfl, k1, k2⟩
    exact ⟨r, rfl, by cases r <;> rfl, k1, ho.trans k2 (fun _ _ e => e)⟩
  refine (does_go (ptr b) d who other now by_ flag wx (fun v w' => v = .int .i64 ((m.act who other now flag p).2 : Int) ∧ Fs w b mb (m.act who other now flag p).1 S w' ∧ Only (fun k => ¬ S k) wx w') p hd hp ?_).mono ?_
  · have : p = 0 ∨ p = 1 ∨ p = 2 ∨ p = 3 ∨ p = 4 ∨ p = 5 ∨ p = 6 ∨ p = 7 ∨ p = 8 := by omega
    rcases this with rfl | rfl | rfl | rfl | rfl | rfl | rfl | rfl | rfl
    · exact key _ _ _ _ _ rfl (fun vw vg hF => join_is _ b mb who flag m vw vg _ hF h1)
    · exact key _ _ _ _ _ rfl (fun vw vg hF => leave_is _ b mb who now m vw vg _ hF h1 hg hw)
    · exact key _ _ _ _ _ rfl (fun vw vg hF => request_is _ b mb who now m vw vg _ hF h1 hg hw hb)
    · exact key _ _ _ _ _ rfl (fun vw vg hF => request_is _ b mb who now m vw vg _ hF h1 hg hw hb)
    · exact key _ _ _ _ _ rfl (fun vw vg hF => release_is _ b mb who now m vw vg _ hF h1 hg hw)
    · exact key _ _ _ _ _ rfl (fun vw vg hF => revoke_is _ b mb who other now m vw vg _ hF h1 h2 hg hw)
    · exact keyb _ _ _ _ (fun vw vg hF => heard_is _ b mb who now flag m vw vg _ hF)
    · exact keyb _ _ _ _ (fun vw vg hF => tick_is _ b mb now m vw vg _ hF hg hw h4 h3)
    · exact keyb _ _ _ _ (fun vw vg hF => tick_is _ b mb now m vw vg _ hF hg hw h4 h3)
  · rintro e w' ⟨v, rfl, rfl, k1, k2⟩
    exact ⟨rfl, k1, k2⟩
end Go.Proofs.Ytelfeedaadkhnaa
