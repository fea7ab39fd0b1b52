/- floor: FloorOrder: its walk. Conditions: as each says. -/
import Derived.Test.YtelfeedaadkhnaaFoJ
set_option linter.unusedVariables false
set_option linter.unusedSimpArgs false
namespace Go.Proofs.Ytelfeedaadkhnaa
open Go Go.RowKit

/-- A call, plainly. -/
structure A13 where
  d : Int
  who : Nat
  other : Nat
  flag : Bool
  by_ : Nat
def A13.cells (x : A13) : Array Value := actC x.d x.who x.other x.flag x.by_
structure A13.Fit (x : A13) : Prop where
  d : -9223372036854775808 ≤ x.d ∧ x.d ≤ 9223372036854775807
  who : x.who < 4294967296
  other : x.other < 4294967296
  by_ : x.by_ < 256
/-- A row of calls that is read. -/
def RdA (w : World) (v : Value) (l : List A13) : Prop := ∃ A c, v = .slice A l.length c ∧ l.length ≤ c ∧ (0 < l.length → ∃ g o, A = some ⟨g, o, none⟩ ∧ ∀ (i : Nat) x, l[i]? = some x → w.rangeAt g (o + i * 5) x.cells.toList)
theorem rangeAt_only {w w' : World} {g o : Nat} {cs : List Value} (h : w.rangeAt g o cs) (ho : Only (fun _ => False) w w') : w'.rangeAt g o cs := fun j v hv => (ho.cell (World.block_lt_of_cell? _ _ (h j v hv)) (by simp)).trans (h j v hv)
set_option maxRecDepth 100000 in
set_option maxHeartbeats 8000000 in
theorem forder_walk (z : Int) (s : Nat) (v : Value) (l : List A13) (w : World) (hz : -9223372036854775808 ≤ z ∧ z ≤ 9223372036854775807) (hv : RdA w v l) (hf : ∀ x ∈ l, x.Fit) :
    Calls Try.prog 4 #[.int .i64 z, .int .u64 (s : Int), v] w (SaysF (.bool true) w) := by
  obtain ⟨A0, c0, rfl, hlc, hrow⟩ := hv
  have HROW := Lib.hid hrow
  have HFIT := Lib.hid hf
  obtain ⟨L, hL⟩ : ∃ L, l.length = L := ⟨_, rfl⟩
  have HL := Lib.hid hL
  rw [hL] at hlc ⊢
  clear hrow hf hL
  obtain ⟨bd, hbd⟩ : ∃ bd : Nat, z % 33 = (bd : Int) := ⟨(z % 33).toNat, by omega⟩
  have hb32 : bd ≤ 32 := by omega
  obtain ⟨s1, hs1⟩ : ∃ s1 : Nat, max 1 s = s1 := ⟨_, rfl⟩
  have hs1I : max (1 : Int) (s : Int) = (s1 : Int) := by omega
  have hs11 : 1 ≤ s1 := by omega
  have HP := Lib.hid (fun w => pick_is z 33 w hz (by decide) (by decide))
  rw [hbd] at HP
  have HN := Lib.hid (fun w => new_yes bd s1 w hb32 hs11)
  clear hs1 hbd hz
  go_enter Try.func4, Try.ntmps4
  by_cases h80 : 80 < L
  · have h80I : (80 : Int) < (L : Int) := by omega
    go_wp2_with fail
    refine (works_is _).mono ?_
    rintro e w1 ⟨rfl, ho⟩
    have HO := Lib.hid ho
    clear ho
    go_wp2
    go_ret
    exact ⟨rfl, HO.out⟩
  · have h80I : ¬ (80 : Int) < (L : Int) := by omega
    go_wp2_with fail
    refine (HP.out _).mono ?_
    rintro e w1 ⟨rfl, rfl⟩
    go_wp2_with fail
    refine (HN.out _).mono ?_
    rintro e w1 ⟨b, mb, rfl, hfl, ho⟩
    have HF := Lib.hid (fs_new hfl ho)
    clear hfl ho HP HN
    go_wp2
    go_loopw [9, 10, 11, 12] (fun s9 s10 s11 s12 wr => ∃ (k now : Nat) (m : Fl) (A : Option Addr) (z' c : Nat), k ≤ L ∧ s9 = .slice A z' c ∧ s10 = .int .u64 now ∧ s11 = .int .i64 (m.gs.length : Int) ∧ s12 = .int .i64 k ∧ Hid (now ≤ 255 * k ∧ m.bound = bd ∧ m.Inv now k ∧ Fs w b mb m (fun j => (Value.slice A z' c).ownBlock = some j) wr ∧ Tl wr w.heap.size (.slice A z' c) m.wt)) (fun s9 s10 s11 s12 _ => L - (intOf s12).toNat)
    case atStart => exact ⟨0, 0, Fl.start bd s1, none, 0, 0, by omega, rfl, rfl, rfl, rfl, Lib.hid ⟨by omega, rfl, Fl.start_inv bd s1 hb32, HF.out.sub (fun j hj => by simp [Value.ownBlock] at hj), Tl.nil _ _⟩⟩
    case round =>
      obtain ⟨k, now, m, A, z', c, hk, rfl, rfl, rfl, rfl, HR⟩ := hrel
      by_cases hkl : k < L
      · have hkI : (k : Int) < (L : Int) := by omega
        obtain ⟨g, o, rfl, hrng⟩ := HROW.out (by rw [HL.out]; omega)
        have hkx : k < l.length := by rw [HL.out]; exact hkl
        obtain ⟨x, hx⟩ : ∃ x, l[k]? = some x := ⟨_, List.getElem?_eq_getElem hkx⟩
        have HX := Lib.hid (rangeAt_only (hrng k x hx) HR.out.2.2.2.1.only)
        have HXF := Lib.hid (HFIT.out x (List.mem_of_getElem? hx))
        obtain ⟨p, hp⟩ : ∃ p : Nat, x.d % 9 = (p : Int) := ⟨(x.d % 9).toNat, by omega⟩
        have HPP := Lib.hid hp
        have HBY := Lib.hid HR.out.1
        have hby := HXF.out.by_
        obtain ⟨t, ht⟩ : ∃ t, now + x.by_ = t := ⟨_, rfl⟩
        have htk : t ≤ 255 * (k + 1) := by have := HBY.out; omega
        have HTT := Lib.hid ht
        clear hrng hkx hx hp ht hby
        go_upto_region 13 with (fail)
        refine pfM b mb bd now k k L c0 g o t x.d x.who x.other x.by_ p x.flag m (.slice A z' c) w hkl (by omega) HXF.out.d HPP.out HXF.out.who HXF.out.other HXF.out.by_ HTT.out (by omega) HR.out.2.2.1 (by omega) HR.out.2.1 _ _ _ _ _ _ _ _ _ _ _ _ _ _ _ _ _ _ _ _ _ _ _ _ _ _ _ _ _ _ _ _ _ _ _ _ _ _ _ _ _ _ _ _ _ _ _ _ _ _ _ _ _ _ _ _ _ _ _ _ _ _ _ _ _ _ _ _ _ _ _ _ _ _ _ _ _ _ _ _ _ _ _ _ _ _ _ _ _ _ _ _ _ _ _ _ _ _ _ _ _ _ _ _ _ _ _ _ _ _ _ _ _ _ _ _ _ _ _ _ _ _ _ _ _ _ _ _ _ _ _ _ _ _ _ _ _ _ _ _ _ _ _ _ _ _ _ _ _ _ _ _ _ _ _ _ _ _ _ _ _ _ _ _ _ _ _ _ _ _ _ _ _ _ _ _ _ _ _ _ _ _ _ _ _ _ _ _ _ _ _ _ _ _ _ _ _ _ _ _ _ _ _ _ _ _ _ _ _ _ _ _ _ _ _ _ _ _ _ _ _ _ _ _ wr HX.out HR.out.2.2.2.1 HR.out.2.2.2.2 (by assumption) ?_
        rintro q6 q9 q10 q11 q13 q14 q15 q16 q17 q18 q19 q20 q21 q22 q23 q45 q46 q47 q48 q49 q50 q51 q52 q53 q54 q55 q56 q57 q58 q59 q60 q61 q62 q63 q64 q65 q66 q67 q68 q69 q70 q71 q72 q73 q74 q75 q76 q77 q78 q79 q80 q81 q82 q83 q84 q85 q86 q87 q88 q89 q90 q91 q92 q93 q94 q95 q96 q97 q98 q99 q100 q101 q102 q103 q104 q105 q106 q107 q108 q109 q110 q111 q112 q113 q114 q115 q116 q117 q118 q119 q120 q121 q122 q123 q124 q125 q126 q127 q128 q129 q130 q131 q132 q133 q134 q135 q136 q137 q138 q139 q140 q141 q142 q143 q144 q145 q146 q147 q148 q149 q150 q151 q152 q153 q154 q155 q156 q157 q158 q159 q160 q161 q162 q163 q164 q165 q166 q167 q168 q169 q170 q171 q172 q173 q174 q175 q176 q177 q178 q179 q180 q181 q182 q183 q184 q185 q186 q187 q188 q189 q190 q191 q192 q193 q194 q195 q196 q197 q198 q199 q200 q201 q202 q203 q204 q205 q206 q207 q208 q209 q210 q211 q212 q213 q214 q215 q216 q217 q218 q219 q220 q221 q222 q223 q224 q225 q226 q227 w2 ⟨m', rfl, rfl, hb', hi', hf', ht'⟩
        obtain ⟨A', c', rfl, -⟩ := id ht'
        have HE := Lib.hid (And.intro hb' (And.intro hi' (And.intro hf' ht')))
        clear hb' hi' hf' ht' HX HXF HR
        go_wp2
        refine ⟨⟨_, _, _, _, _, _, _, _, _, _, _, _, _, _, _, _, _, _, _, _, _, _, _, _, _, _, _, _, _, _, _, _, _, _, _, _, _, _, _, _, _, _, _, _, _, _, _, _, _, _, _, _, _, _, _, _, _, _, _, _, _, _, _, _, _, _, _, _, _, _, _, _, _, _, _, _, _, _, _, _, _, _, _, _, _, _, _, _, _, _, _, _, _, _, _, _, _, _, _, _, _, _, _, _, _, _, _, _, _, _, _, _, _, _, _, _, _, _, _, _, _, _, _, _, _, _, _, _, _, _, _, _, _, _, _, _, _, _, _, _, _, _, _, _, _, _, _, _, _, _, _, _, _, _, _, _, _, _, _, _, _, _, _, _, _, _, _, _, _, _, _, _, _, _, _, _, _, _, _, _, _, _, _, _, _, _, _, _, _, _, _, _, _, _, _, _, _, _, _, _, _, _, _, _, _, ?_, rfl⟩, ?_⟩
        · exact ⟨k + 1, t, m', _, _, _, by omega, rfl, rfl, rfl, by go_num, Lib.hid ⟨htk, HE.out.1, HE.out.2.1, HE.out.2.2.1, HE.out.2.2.2⟩⟩
        · simp [intOf]; omega
      · obtain rfl : k = L := by omega
        have HO := Lib.hid HR.out.2.2.2.1.only
        clear HR
        go_wp2_with fail
        refine (works_is _).mono ?_
        rintro e w1 ⟨rfl, ho⟩
        have HO1 := Lib.hid (HO.out.trans ho (fun _ _ e => e))
        clear ho
        go_wp2
        go_ret
        exact ⟨rfl, HO1.out⟩
end Go.Proofs.Ytelfeedaadkhnaa
