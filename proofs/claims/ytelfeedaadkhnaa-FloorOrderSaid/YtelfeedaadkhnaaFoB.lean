/- floor: what a floor keeps from call to call, plainly; how grants follow those who asked. Conditions: as each says. -/
import Derived.Test.YtelfeedaadkhnaaFoA
set_option linter.unusedVariables false
set_option linter.unusedSimpArgs false
namespace Go.Proofs.Ytelfeedaadkhnaa
open Go Go.RowKit

/-- What a floor keeps, whoever holds it. -/
structure Fl.Core (m : Fl) (now k : Nat) : Prop where
  bound : m.bound ≤ 32
  few : m.ms.length ≤ 32
  wl : m.wt.length ≤ m.bound
  wh : ∀ x ∈ m.wt, m.has x = true
  nd : m.wt.Nodup
  num : ∀ (i : Nat) g, m.gs[i]? = some g → g.1 = i + 1 ∧ g.2.2 ≤ now
  gl : m.gs.length ≤ k
/-- What a floor keeps. -/
structure Fl.Inv (m : Fl) (now k : Nat) : Prop where
  core : m.Core now k
  hold : 0 < m.no → m.has m.who = true ∧ m.who ∉ m.wt ∧ m.gs.getLast? = some (m.no, m.who, m.at_)
  free : m.no = 0 → m.wt = []
  heard : m.heard ≤ now
section
variable {m : Fl} {now now' k k' n : Nat}
theorem Fl.Core.mono (h : m.Core now k) (h1 : now ≤ now') (h2 : k ≤ k') : m.Core now' k' :=
  ⟨h.bound, h.few, h.wl, h.wh, h.nd, fun i g hg => ⟨(h.num i g hg).1, Nat.le_trans (h.num i g hg).2 h1⟩, Nat.le_trans h.gl h2⟩
theorem Fl.Inv.mono (h : m.Inv now k) (h1 : now ≤ now') (h2 : k ≤ k') : m.Inv now' k' := ⟨h.core.mono h1 h2, h.hold, h.free, Nat.le_trans h.heard h1⟩
theorem Fl.Core.grant (h : m.Core now k) (h1 : m.has n = true) (h2 : n ∉ m.wt) : (m.grant n now).Inv now (k + 1) := by
  refine ⟨⟨h.bound, h.few, h.wl, h.wh, h.nd, fun i g hg => ?_, ?_⟩, fun _ => ⟨h1, h2, ?_⟩, fun e => ?_, Nat.le_refl _⟩
  · have hg' : (m.gs ++ [(m.gs.length + 1, n, now)])[i]? = some g := hg
    rcases Nat.lt_or_ge i m.gs.length with hi | hi
    · rw [List.getElem?_append_left hi] at hg'
      exact h.num i g hg'
    · rw [List.getElem?_append_right hi] at hg'
      obtain ⟨j, hj⟩ : ∃ j, i - m.gs.length = j := ⟨_, rfl⟩
      rw [hj] at hg'
      match j, hg' with
      | 0, hg' =>
        simp at hg'
        subst hg'
        exact ⟨by simp; omega, Nat.le_refl _⟩
  · show (m.gs ++ [(m.gs.length + 1, n, now)]).length ≤ k + 1
    have := h.gl
    simp
    exact this
  · show (m.gs ++ [(m.gs.length + 1, n, now)]).getLast? = some (m.gs.length + 1, n, now)
    simp
  · have : m.gs.length + 1 = 0 := e
    omega
theorem Fl.Core.free_ (h : m.Core now k) {r : List Nat} (hr : ∀ x ∈ r, x ∈ m.wt) (hl : r.length ≤ m.wt.length) (hd : r.Nodup) : ({ m.free with wt := r } : Fl).Core now k :=
  ⟨h.bound, h.few, Nat.le_trans hl h.wl, fun x hx => h.wh x (hr x hx), hd, h.num, h.gl⟩
theorem Fl.Core.end_ (h : m.Core now k) : (m.end_ now).Inv now (k + 1) := by
  unfold Fl.end_
  split
  · rename_i hw
    have hc := (h.free_ (r := []) (by simp) (by simp) (by simp)).mono (Nat.le_refl _) (Nat.le_succ k)
    have e : m.free = ({ m.free with wt := [] } : Fl) := by unfold Fl.free; simp [hw]
    rw [e]
    exact ⟨hc, fun h0 => absurd h0 (by simp [Fl.free]), fun _ => rfl, Nat.zero_le _⟩
  · rename_i x r hw
    have hnd := h.nd
    rw [hw] at hnd
    obtain ⟨hx, hr⟩ := List.nodup_cons.1 hnd
    refine (h.free_ (r := r) (fun y hy => by rw [hw]; exact List.mem_cons_of_mem _ hy) (by rw [hw]; simp) hr).grant ?_ hx
    exact h.wh x (by rw [hw]; exact List.mem_cons_self ..)
theorem Fl.gone_has (m : Fl) (n x : Nat) : (m.gone n).has x = (m.has x && x != n) := by
  rw [Bool.eq_iff_iff]
  simp only [Fl.has, Fl.gone, List.any_eq_true, List.mem_filter, Bool.and_eq_true, bne_iff_ne, ne_eq, beq_iff_eq]
  constructor
  · rintro ⟨y, ⟨h1, h2⟩, rfl⟩
    exact ⟨⟨y, h1, rfl⟩, h2⟩
  · rintro ⟨⟨y, h1, rfl⟩, h2⟩
    exact ⟨y, ⟨h1, h2⟩, rfl⟩
theorem Fl.Core.gone (h : m.Core now k) (n : Nat) : (m.gone n).Core now k := by
  refine ⟨h.bound, Nat.le_trans (List.length_filter_le ..) h.few, Nat.le_trans (List.length_filter_le ..) h.wl, fun x hx => ?_, h.nd.filter _, h.num, h.gl⟩
  have hx' : x ∈ m.wt.filter (fun x => x != n) := hx
  rw [List.mem_filter] at hx'
  rw [Fl.gone_has, h.wh x hx'.1, hx'.2]
  rfl
end
/-- A floor's call, by a number: and what it answers. -/
def Fl.act (m : Fl) (who other now : Nat) (flag : Bool) : Nat → Fl × Nat
  | 0 => m.join who flag
  | 1 => m.leave who now
  | 2 => m.request who now
  | 3 => m.request who now
  | 4 => m.release who now
  | 5 => m.revoke who other now
  | 6 => ((m.hear who now flag).1, if (m.hear who now flag).2 then 1001 else 1000)
  | _ => ((m.tick now).1, if (m.tick now).2 then 1001 else 1000)
/-- Those who have asked, behind a call. -/
def askedBy (l : List Nat) (p who c : Nat) : List Nat := if (p = 2 ∨ p = 3) ∧ c = 0 then l ++ [who] else if p = 1 ∧ c = 0 then l.filter (fun x => x != who) else l
/-- What a call leaves: the floor keeps what it keeps; what has been asked is what is granted now, and what waits. -/
structure Step1 (m : Fl) (m' : Fl) (asked : List Nat) (now k : Nat) (ext : List (Nat × Nat × Nat)) : Prop where
  inv : m'.Inv now k
  bound : m'.bound = m.bound
  gs : m'.gs = m.gs ++ ext
  asked : asked = ext.map (·.2.1) ++ m'.wt
section
variable {m : Fl} {now now' k k' n : Nat}
theorem step_same {asked : List Nat} (h : m.Inv now k) (e : asked = m.wt) : Step1 m m asked now (k + 1) [] := ⟨h.mono (Nat.le_refl _) (Nat.le_succ _), rfl, by simp, by simpa using e⟩
theorem step_end {m0 : Fl} {asked : List Nat} (h : m.Core now k) (e : asked = m.wt) (hb : m.bound = m0.bound) (hg : m.gs = m0.gs) : ∃ ext, Step1 m0 (m.end_ now) asked now (k + 1) ext := by
  have hi := h.end_
  unfold Fl.end_ at hi ⊢
  split at hi
  · rename_i hw
    exact ⟨[], hi, hb, by simp [Fl.free, hg], by rw [e, hw]; simp [Fl.free, hw]⟩
  · rename_i x r hw
    exact ⟨[(m.gs.length + 1, x, now)], hi, hb, by show m.gs ++ [(m.gs.length + 1, x, now)] = _; rw [hg], by rw [e, hw]; rfl⟩
theorem step_act (h : m.Inv now k) (who other : Nat) (flag : Bool) (p : Nat) (hp : p < 9) :
    ∃ ext, Step1 m (m.act who other now flag p).1 (askedBy m.wt p who (m.act who other now flag p).2) now (k + 1) ext := by
  have : p = 0 ∨ p = 1 ∨ p = 2 ∨ p = 3 ∨ p = 4 ∨ p = 5 ∨ p = 6 ∨ p = 7 ∨ p = 8 := by omega
  have hreq : ∃ ext, Step1 m (m.request who now).1 (if (m.request who now).2 = 0 then m.wt ++ [who] else m.wt) now (k + 1) ext := by
    unfold Fl.request
    split
    · exact ⟨[], step_same h (by simp)⟩
    · rename_i h1
      have h1' : m.has who = true := by simpa using h1
      split
      · exact ⟨[], step_same h (by simp)⟩
      · rename_i h2
        rw [Bool.or_eq_true, not_or] at h2
        have hw : who ∉ m.wt := by
          intro hm
          exact h2.2 (List.any_eq_true.2 ⟨who, hm, by simp⟩)
        split
        · rename_i h3
          refine ⟨[(m.gs.length + 1, who, now)], h.core.grant h1' hw, rfl, rfl, ?_⟩
          show _ = _ ++ m.wt
          rw [h.free h3]
          simp
        · rename_i h3
          split
          · exact ⟨[], step_same h (by simp)⟩
          · rename_i h4
            have hc := h.core
            obtain ⟨k1, k2, k3⟩ := h.hold (by omega)
            refine ⟨[], ⟨⟨⟨hc.bound, hc.few, ?_, ?_, ?_, hc.num, Nat.le_trans hc.gl (Nat.le_succ _)⟩, fun h0 => ⟨k1, ?_, k3⟩, fun e => absurd e h3, h.heard⟩, rfl, by simp, by simp⟩⟩
            · show (m.wt ++ [who]).length ≤ m.bound
              rw [List.length_append, List.length_singleton]; omega
            · intro x hx
              rcases List.mem_append.1 hx with hx | hx
              · exact hc.wh x hx
              · rw [List.mem_singleton.1 hx]; exact h1'
            · show (m.wt ++ [who]).Nodup
              rw [List.nodup_append]
              refine ⟨hc.nd, by simp, fun a ha b hb e => ?_⟩
              rw [List.mem_singleton.1 hb] at e
              exact hw (e ▸ ha)
            · show m.who ∉ m.wt ++ [who]
              rw [List.mem_append, List.mem_singleton, not_or]
              refine ⟨k2, fun e => h2.1 ?_⟩
              unfold Fl.is
              simp [e]
              omega
  rcases this with rfl | rfl | rfl | rfl | rfl | rfl | rfl | rfl | rfl
  · show ∃ ext, Step1 m (m.join who flag).1 (askedBy m.wt 0 who (m.join who flag).2) now (k + 1) ext
    have e : askedBy m.wt 0 who (m.join who flag).2 = m.wt := by simp [askedBy]
    rw [e]
    unfold Fl.join
    split
    · exact ⟨[], step_same h rfl⟩
    · split
      · exact ⟨[], step_same h rfl⟩
      · rename_i h1 h2
        have hmono : ∀ x, m.has x = true → (m.ms ++ [(who, flag)]).any (fun y => y.1 == x) = true := fun x hx => by
          rw [List.any_append]
          have : m.ms.any (fun y => y.1 == x) = true := hx
          rw [this]; rfl
        have hc := h.core
        exact ⟨[], ⟨⟨hc.bound, by show (m.ms ++ [(who, flag)]).length ≤ 32; rw [List.length_append, List.length_singleton]; omega, hc.wl, fun x hx => hmono x (hc.wh x hx), hc.nd, hc.num, Nat.le_trans hc.gl (Nat.le_succ _)⟩, fun h0 => ⟨hmono _ (h.hold h0).1, (h.hold h0).2⟩, h.free, h.heard⟩, rfl, by simp, by simp⟩
  · show ∃ ext, Step1 m (m.leave who now).1 (askedBy m.wt 1 who (m.leave who now).2) now (k + 1) ext
    have e : askedBy m.wt 1 who (m.leave who now).2 = if (m.leave who now).2 = 0 then m.wt.filter (fun x => x != who) else m.wt := by simp [askedBy]
    rw [e]
    unfold Fl.leave
    split
    · split
      · exact step_end (h.core.gone who) (by rfl) rfl rfl
      · rename_i h1 h2
        have hn : 0 < m.no → m.who ≠ who := fun h0 e => h2 (by simp [Fl.is, e, h0])
        refine ⟨[], ⟨⟨(h.core.gone who).mono (Nat.le_refl _) (Nat.le_succ _), fun h0 => ?_, fun h0 => ?_, h.heard⟩, rfl, by simp [Fl.gone], by rfl⟩⟩
        · obtain ⟨k1, k2, k3⟩ := h.hold h0
          refine ⟨?_, fun hm => k2 (List.mem_filter.1 hm).1, k3⟩
          show (m.gone who).has m.who = true
          rw [Fl.gone_has, k1]
          simpa using hn h0
        · show m.wt.filter _ = []
          rw [h.free h0]
          rfl
    · exact ⟨[], step_same h (by simp)⟩
  · have e : askedBy m.wt 2 who (m.request who now).2 = if (m.request who now).2 = 0 then m.wt ++ [who] else m.wt := by simp [askedBy]
    show ∃ ext, Step1 m (m.request who now).1 (askedBy m.wt 2 who (m.request who now).2) now (k + 1) ext
    rw [e]
    exact hreq
  · have e : askedBy m.wt 3 who (m.request who now).2 = if (m.request who now).2 = 0 then m.wt ++ [who] else m.wt := by simp [askedBy]
    show ∃ ext, Step1 m (m.request who now).1 (askedBy m.wt 3 who (m.request who now).2) now (k + 1) ext
    rw [e]
    exact hreq
  · show ∃ ext, Step1 m (m.release who now).1 (askedBy m.wt 4 who (m.release who now).2) now (k + 1) ext
    have e : askedBy m.wt 4 who (m.release who now).2 = m.wt := by simp [askedBy]
    rw [e]
    unfold Fl.release
    split
    · exact ⟨[], step_same h rfl⟩
    · split
      · exact ⟨[], step_same h rfl⟩
      · exact step_end h.core rfl rfl rfl
  · show ∃ ext, Step1 m (m.revoke who other now).1 (askedBy m.wt 5 who (m.revoke who other now).2) now (k + 1) ext
    have e : askedBy m.wt 5 who (m.revoke who other now).2 = m.wt := by simp [askedBy]
    rw [e]
    unfold Fl.revoke
    split
    · exact ⟨[], step_same h rfl⟩
    · split
      · exact ⟨[], step_same h rfl⟩
      · split
        · exact ⟨[], step_same h rfl⟩
        · exact step_end h.core rfl rfl rfl
  · show ∃ ext, Step1 m (m.hear who now flag).1 (askedBy m.wt 6 who _) now (k + 1) ext
    have e : ∀ c, askedBy m.wt 6 who c = m.wt := fun c => by simp [askedBy]
    rw [e]
    unfold Fl.hear
    split
    · have hc := h.core
      exact ⟨[], ⟨⟨hc.bound, hc.few, hc.wl, hc.wh, hc.nd, hc.num, Nat.le_trans hc.gl (Nat.le_succ _)⟩, h.hold, h.free, Nat.le_refl _⟩, rfl, by simp, by simp⟩
    · exact ⟨[], step_same h rfl⟩
  all_goals
    show ∃ ext, Step1 m (m.tick now).1 (askedBy m.wt _ who _) now (k + 1) ext
    have e : ∀ c, askedBy m.wt 7 who c = m.wt := fun c => by simp [askedBy]
    have e8 : ∀ c, askedBy m.wt 8 who c = m.wt := fun c => by simp [askedBy]
    simp only [e, e8]
    unfold Fl.tick
    split
    · exact step_end h.core rfl rfl rfl
    · exact ⟨[], step_same h rfl⟩
theorem Fl.start_inv (bound s : Nat) (h : bound ≤ 32) : (Fl.start bound s).Inv 0 0 :=
  ⟨⟨h, by simp [Fl.start], by simp [Fl.start], by simp [Fl.start], by simp [Fl.start], by simp [Fl.start], by simp [Fl.start]⟩, by simp [Fl.start], by simp [Fl.start], by simp [Fl.start]⟩
end
end Go.Proofs.Ytelfeedaadkhnaa
