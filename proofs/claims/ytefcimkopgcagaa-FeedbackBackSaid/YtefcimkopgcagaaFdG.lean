/- feedback.Parse: any packet. Conditions: as each says. -/
import Derived.Test.YtefcimkopgcagaaFdF
set_option linter.unusedVariables false
set_option linter.unusedSimpArgs false
namespace Go.Proofs.Ytefcimkopgcagaa
open Go.RowKit

/-- What feedback.Parse tells: the document's message, in rows of its own. -/
def FParsed (kd ct : Nat) (bs : List Nat) (w : World) (e : Ending) (w' : World) : Prop := ∃ vp vo vs, e = .returned (.tuple #[.agg ((rparse kd ct bs).1.cls vp vo vs), .int .i64 (rparse kd ct bs).2]) ∧ OwnM w.heap.size (rparse kd ct bs).1 vp vo vs w' ∧ Only (fun _ => False) w w'
set_option maxRecDepth 100000 in
set_option maxHeartbeats 4000000 in
theorem fparse_none (kd ct pad : Nat) (vb : Value) (w : World) (hso : sOf kd ct = 0) :
    Calls Try.prog 23 #[.agg #[.int .u8 (ct : Nat), .int .u8 (kd : Nat), vb, .int .u8 (pad : Nat)]] w fun e w' => e = .returned (.tuple #[.agg (ms0.cls (.slice none 0 0) (.slice none 0 0) (.slice none 0 0)), .int .i64 62]) ∧ Only (fun _ => False) w w' := by
  have HSB := Lib.hid (fun wx => sortby_is kd ct wx)
  rw [hso] at HSB
  clear hso
  go_enter Try.func23, Try.ntmps23
  go_upto_region 1 with (fail)
  generalize hw0 : World.alloc _ _ = w0
  obtain ⟨pb, hpb⟩ : ∃ k, w.heap.size = k := ⟨_, rfl⟩
  obtain ⟨rb, hrb⟩ : ∃ k, w.heap.size + 1 = k := ⟨_, rfl⟩
  have I0 := Lib.hid (show Is w0 pb 41 #[.int .u8 (ct : Nat), .int .u8 (kd : Nat), vb, .int .u8 (pad : Nat)] from by rw [← hw0, ← hpb]; exact (Is.made _ _ _).alloc _)
  have R0 := Lib.hid (show Is w0 rb 27 ((msB 0 0 0).cls (.slice none 0 0) (.slice none 0 0) (.slice none 0 0)) from by rw [← hw0, ← hrb]; have h := Is.made (w.alloc (.cells #[.int .u8 (ct : Nat), .int .u8 (kd : Nat), vb, .int .u8 (pad : Nat)] 41)) 27 ((msB 0 0 0).cls (.slice none 0 0) (.slice none 0 0) (.slice none 0 0)); rw [World.size_alloc] at h; exact h)
  have P0 := Lib.hid (show Only (fun _ => False) w w0 from by rw [← hw0]; exact ((Only.refl _ w).alloc _).alloc _)
  have HRB := Lib.hid (show w.heap.size ≤ rb from by omega)
  rw [hrb, hpb]
  clear hw0 hpb hrb
  have c0 := I0.out.cell 0
  have c1 := I0.out.cell 1
  simp at c0 c1
  go_upto_region 2 with (first
    | (go_at_call 55; refine (HSB.out _).mono ?_; rintro e w2 ⟨rfl, ho2⟩; have O2 := Lib.hid ho2; clear ho2)
    | (refine wpList_store_is rfl 93 _ _ rfl w2.heap.size (srtV 0) rfl rfl 93 (srtV 0) (Is.made w2 _ (srtV 0)) srt0_size rfl srt0_one ?_; intro w3 hi3 ho3; have O3 := Lib.hid (fb_made ho3); clear hi3 ho3))
  have P3 := Lib.hid (only_more P0.out (only_more O2.out O3.out))
  have R3 := Lib.hid (R0.out.only (only_more O2.out O3.out) (by simp))
  clear I0 R0 P0 O2 O3 c0 c1
  go_wp2_with (refine wpList_store_is rfl 27 _ _ rfl rb ((msB 0 0 0).cls (.slice none 0 0) (.slice none 0 0) (.slice none 0 0)) rfl rfl 27 _ R3.out Try.sizeMe rfl (by simp [Ms.cls, msB, Value.oneCell']) ?_; intro w8 hi8 ho8)
  refine bodyPost_ret (res_pair Try.results23 _ w8 rb 27 _ _ _ rfl rfl hi8 Try.underlying27 rfl Try.sizeMe) rfl ?_
  exact ⟨rfl, P3.out.trans ho8 (fun i hi e => by have := HRB.out; omega)⟩
theorem fmk_fit (s : Nat) (bs : List Nat) (hl : bs.length ≤ 10000) : ((fmk s bs).1.pairs.length ≤ 1000000 ∧ (fmk s bs).1.orders.length ≤ 1000000 ∧ (fmk s bs).1.srcs.length ≤ 1000000) ∧ (fmk s bs).1.mant < 4294967296 ∧ (fmk s bs).1.exp < 256 := by
  unfold fmk tkMs
  generalize bys bs (nmS s).size (tk bs 32 (tk bs 32 (0, 0)).2).2 = q
  obtain ⟨b, p, f⟩ := q
  simp only
  split
  · simp [msB]; omega
  split
  · simp [msB]; omega
  split
  · have h1 : (tk bs 6 (tk bs 8 (p, f)).2).1 < 64 := tk_lt bs 6 _
    have h2 : (tk bs 18 (tk bs 6 (tk bs 8 (p, f)).2).2).1 < 262144 := tk_lt bs 18 _
    have h3 : (tk bs 8 (p, f)).1 < 256 := tk_lt bs 8 _
    simp [msB, tkS_length]
    omega
  · simp [msB]
theorem fparse_of (s fn kd ct pad : Nat) (vb : Value) (bs : List Nat) (w : World) (hs : Src w vb bs) (hb : ∀ x ∈ bs, x < 256) (hl : bs.length ≤ 10000) (hso : sOf kd ct = s) (h1 : 1 ≤ s) (h4 : s ≤ 4)
    (hc2 : (srtV s)[2]? = some (.string (nmS s))) (hc14 : (srtV s)[14]? = some (.func (.func fn) #[] #[])) (hcf : ∀ (args : Array Value) (w : World), (callFunc fn args).run Try.prog w = .ok (.enter fn args) w)
    (hT : ∀ a b st, (st.2 = 0 ∨ 8 * bs.length - st.1 < 32) → Takes fn (msB s a b) bs st) :
    Calls Try.prog 23 #[.agg #[.int .u8 (ct : Nat), .int .u8 (kd : Nat), vb, .int .u8 (pad : Nat)]] w (FParsed kd ct bs w) := by
  have hnm : (nmS s).size ≤ 4 := by unfold nmS; split <;> decide
  have hst : (bys bs (nmS s).size (tk bs 32 (tk bs 32 (0, 0)).2).2).2.2 = 0 ∨ 8 * bs.length - (bys bs (nmS s).size (tk bs 32 (tk bs 32 (0, 0)).2).2).2.1 < 32 := by
    by_cases h8 : bs.length < 8
    · obtain ⟨h5, h6⟩ := head_short bs h8
      exact .inr (by rw [(bys_bad bs _ _ h5).1]; exact h6)
    · obtain ⟨h5, h6⟩ := head_long bs hb (by omega)
      rw [h5, h6]
      by_cases h9 : 64 + 8 * (nmS s).size ≤ 8 * bs.length
      · exact .inl (by rw [bys_ok bs _ 64 (by omega) h9])
      · exact .inr (by rw [(bys_short bs _ 64 (by omega) (by omega)).1]; omega)
  have ha := fans_is kd ct bs hb hl (by omega)
  rw [hso] at ha
  refine (fparse_sort s kd ct pad fn _ _ (nmS s) (tk bs 32 (0, 0)).2 (tk bs 32 (tk bs 32 (0, 0)).2).2 (bys bs (nmS s).size (tk bs 32 (tk bs 32 (0, 0)).2).2).2 (fmk s bs).2 (fnd s bs) (fmk s bs).1 vb bs w hs hb hl hso h1 h4 hc2 hc14 (by omega) rfl rfl
    (fun v br wx h => bys_is br _ bs v _ (nmS s) wx rfl (by omega) h) rfl (hT _ _ _ hst) hcf (fmk_fit s bs hl) (fans s bs) rfl).mono ?_
  rw [ha]
  intro e w' h
  exact h
theorem fparse_is (kd ct pad : Nat) (vb : Value) (bs : List Nat) (w : World) (hs : Src w vb bs) (hb : ∀ x ∈ bs, x < 256) (hl : bs.length ≤ 10000) :
    Calls Try.prog 23 #[.agg #[.int .u8 (ct : Nat), .int .u8 (kd : Nat), vb, .int .u8 (pad : Nat)]] w (FParsed kd ct bs w) := by
  have h5 := sOf_lt kd ct
  have h : sOf kd ct = 0 ∨ sOf kd ct = 1 ∨ sOf kd ct = 2 ∨ sOf kd ct = 3 ∨ sOf kd ct = 4 := by omega
  rcases h with h | h | h | h | h
  · refine (fparse_none kd ct pad vb w h).mono ?_
    rintro e w' ⟨rfl, ho⟩
    have hr : rparse kd ct bs = (ms0, 62) := by unfold rparse; rw [if_pos h]
    refine ⟨.slice none 0 0, .slice none 0 0, .slice none 0 0, by rw [hr], ?_, ho⟩
    rw [hr]
    exact OwnM.nil _ _ _ rfl rfl rfl
  · exact fparse_of 1 _ kd ct pad vb bs w hs hb hl h (by decide) (by decide) rfl rfl ftake_1 (fun a b st hst => takes_1 a b bs st hl (by omega))
  · exact fparse_of 2 _ kd ct pad vb bs w hs hb hl h (by decide) (by decide) rfl rfl ftake_2 (fun a b st hst => takes_2 a b bs st)
  · exact fparse_of 3 _ kd ct pad vb bs w hs hb hl h (by decide) (by decide) rfl rfl ftake_3 (fun a b st hst => takes_3 a b bs st hl (by omega))
  · exact fparse_of 4 _ kd ct pad vb bs w hs hb hl h (by decide) (by decide) rfl rfl ftake_4 (fun a b st hst => takes_4 a b bs st)
end Go.Proofs.Ytefcimkopgcagaa
