/- easeldocs.Packet: a packet in new memory. Conditions: as it says. -/
import Derived.Test.YtdcclighccejhaaRpB
import Derived.Test.YtdcclighccejhaaBase
import Derived.Test.YtdcclighccejhaaRtpH
import Derived.Laws.AppendOwn
import Derived.Laws.OwnMore
set_option linter.unusedVariables false
namespace Go.Proofs.Ytdcclighccejhaa
open Go.RowKit

theorem Try.sizeRk : (Try.prog.info? 74).map (·.size) = some 11 := by kernel_rfl
theorem own32_rd {w : World} {B : Nat} {v : Value} {ns : List Nat} (h : w.ownsRow B 38 1 v ns.length (cells32 ns)) : Rd .u32 w v (nats ns) := by
  rcases h.2 with ⟨rfl, h0⟩ | ⟨g, cap, cur, rfl, hb, hg, hc, _⟩
  · obtain rfl := List.eq_nil_of_length_eq_zero h0
    exact Rd.nil _ _
  · refine ⟨some ⟨g, 0, none⟩, cap, by rw [nats_length], by rw [nats_length]; exact hc, fun hp => ⟨g, 0, rfl, fun j hj => ?_⟩⟩
    rw [nats_length] at hj
    have h1 := h.cells (g := g) rfl j (.int .u32 (ns[j] : Nat)) (by simp [cells32, hj])
    rw [add_plain] at h1
    rw [h1]
    simp [nats]
set_option maxRecDepth 100000 in
/-- Numbers are appended to nothing. -/
theorem app32 {o : Oper} {a : Act} {K : Act → World → Prop} {Q : Exit → Act → World → Prop} (w : World) (s x : Operand) (ho : o.op = .call { callee := .builtin .append, args := #[s, x], argTypes := #[39, 39] })
    (B : Nat) (vx : Value) (ns : List Nat) (hs : a.eval s = .slice none 0 0) (hx : a.eval x = vx) (hn0 : vx = .slice none 0 0 ∨ ∃ ad n c, vx = .slice (some ad) n c) (hr : Rd .u32 w vx (nats ns)) (hl : ns.length ≤ 1000000) (hB : B ≤ w.heap.size)
    (h : ∀ A c w', w'.ownsRow B 38 1 (.slice A ns.length c) ns.length (cells32 ns) → Only (fun _ => False) w w' → K (a.put o.dst (.slice A ns.length c)) w') : Oper.wp Try.prog o a w K Q := by
  obtain ⟨i0, hi, hz0, hz1, hz2⟩ := info_parts Try.infoU32
  obtain ⟨A, c, rfl, hc, hh⟩ := hr
  rw [nats_length] at hc hx
  have fin : ∀ v' w', w'.ownsRow B 38 1 v' ns.length (cells32 ns) → Only (fun _ => False) w w' → K (a.put o.dst v') w' := fun v' w' h1 h2 => by
    obtain ⟨A', c', rfl, _⟩ := own_slice h1
    exact h A' c' w' h1 h2
  rcases A with _ | ad
  · have h0 : ns.length = 0 := by
      rcases Nat.eq_zero_or_pos ns.length with e | e
      · exact e
      · obtain ⟨b, o, e1, _⟩ := hh (by rw [nats_length]; exact e)
        cases e1
    obtain rfl := List.eq_nil_of_length_eq_zero h0
    have hrun := run_append_owned_none (P := Try.prog) w B 39 o.type 38 i0 1 Try.underlying39 hi (.slice none 0 0) 0 [] (World.ownsRow_nil w B 38 1)
    obtain rfl : c = 0 := by rcases hn0 with e | ⟨_, _, _, e⟩ <;> cases e; rfl
    unfold Oper.wp
    simp [execOp, ho, resolve, invoke, builtin, hs, hx, hrun, Result.andThen]
    exact fin _ w (World.ownsRow_nil w B 38 1) (Only.refl _ w)
  · have hn : ∀ j u, (cells32 ns)[j]? = some u → w.cell? (ad.add j) = some u := by
      intro j u hu
      have hj : j < ns.length := by rw [← length_cells32]; exact (List.getElem?_eq_some_iff.1 hu).1
      obtain ⟨b, o, e1, hcell⟩ := hh (by rw [nats_length]; omega)
      injection e1 with e1
      subst e1
      have h1 := hcell j (by rw [nats_length]; exact hj)
      rw [add_plain, h1, ← hu]
      simp [cells32, nats, hj]
    exact wp_append_own w s x 39 ho B 38 i0 (.int .u32 0) 1 4 Try.underlying39 hi hz0 hz1 hz2 rfl (by decide) (.slice none 0 0) 0 [] hs (World.ownsRow_nil w B 38 1) ad ns.length c (cells32 ns) hx (by rw [length_cells32, Nat.mul_one]) hn (by simp [cells32, Value.oneCell']) (by unfold maxLen; omega) (by omega) hB
      (fun v' w' h1 h2 _ => fin v' w' (by simpa using h1) ((Only.refl _ w).grown h2 (fun i hi _ => by simp [Value.ownBlock] at hi)))

/-- A packet, told anew. -/
def GotPacket (p : Pk) (w : World) (e : Ending) (w' : World) : Prop := ∃ vc ve vp, e = .returned (.agg #[.bool p.marker, .int .u8 p.ty, .int .u16 p.seq, .int .u32 p.time, .int .u32 p.ssrc, vc, .bool p.hasExt, .int .u16 p.profile, ve, vp, .int .u8 p.pad]) ∧ w'.ownsRow w.heap.size 38 1 vc p.csrc.length (cells32 p.csrc) ∧ w'.ownsRow w.heap.size 5 1 ve p.ext.length (cellsOf p.ext) ∧ w'.ownsRow w.heap.size 5 1 vp p.pay.length (cellsOf p.pay) ∧ Only (fun _ => False) w w'
set_option maxRecDepth 100000 in
set_option maxHeartbeats 2000000 in
theorem docs_packet (p : Pk) (vc ve vp : Value) (w : World) (hn0 : vc = .slice none 0 0 ∨ ∃ ad n c, vc = .slice (some ad) n c) (hc : Rd .u32 w vc (nats p.csrc)) (he : Src w ve p.ext) (hp : Src w vp p.pay) (hl : p.csrc.length ≤ 1000 ∧ p.ext.length ≤ 1000000 ∧ p.pay.length ≤ 1000000) :
    Calls Try.prog 26 #[.agg #[.bool p.marker, .int .u8 p.ty, .int .u16 p.seq, .int .u32 p.time, .int .u32 p.ssrc, vc, .bool p.hasExt, .int .u16 p.profile, ve, vp, .int .u8 p.pad]] w (GotPacket p w) := by
  have HC := Lib.hid hc
  have HN0 := Lib.hid hn0
  have HE := Lib.hid he
  have HP := Lib.hid hp
  have HL := Lib.hid hl
  have one1 : (∃ A n c, vc = .slice A n c) := by obtain ⟨A, c, h, _⟩ := hc; exact ⟨A, _, c, h⟩
  have one2 : (∃ A n c, ve = .slice A n c) := by obtain ⟨A, c, h⟩ := he.slice; exact ⟨A, _, c, h⟩
  have one3 : (∃ A n c, vp = .slice A n c) := by obtain ⟨A, c, h⟩ := hp.slice; exact ⟨A, _, c, h⟩
  clear hc hn0 he hp hl one1 one2 one3
  go_enter Try.func26, Try.ntmps26
  obtain ⟨bx, hbx⟩ : ∃ b, w.heap.size = b := ⟨_, rfl⟩
  have HBX := Lib.hid hbx
  go_upto_region 2 with (fail)
  obtain ⟨rb, hrb⟩ : ∃ b, bx + 1 = b := ⟨_, rfl⟩
  generalize hw0 : World.alloc _ _ = w0
  have HI := Lib.hid (show Is w0 bx 42 #[.bool p.marker, .int .u8 p.ty, .int .u16 p.seq, .int .u32 p.time, .int .u32 p.ssrc, vc, .bool p.hasExt, .int .u16 p.profile, ve, vp, .int .u8 p.pad] from by rw [← hw0, ← hbx]; exact (Is.made _ _ _).alloc _)
  have HR := Lib.hid (show Is w0 rb 74 zeros from by rw [← hw0, ← hrb, ← hbx]; have h := Is.made (w.alloc (.cells #[.bool p.marker, .int .u8 p.ty, .int .u16 p.seq, .int .u32 p.time, .int .u32 p.ssrc, vc, .bool p.hasExt, .int .u16 p.profile, ve, vp, .int .u8 p.pad] 42)) 74 zeros; rw [show ∀ o : Obj, (w.alloc o).heap.size = w.heap.size + 1 from fun o => by simp] at h; exact h)
  have O0 := Lib.hid (show Only (fun _ => False) w w0 from by rw [← hw0]; exact ((Only.refl _ w).alloc _).alloc _)
  have RB := Lib.hid (show w.heap.size < rb from by omega)
  rw [hrb]
  clear hw0 hbx hrb
  refine wp_region_posts [[], [0], [], [2], [], [4], [], [6], [], [8], [], [], [11], [10, 12, 11], [], [14], [], [16], [], [18], [19, 13, 18, 10, 12, 11], [], [21], [22, 20, 21, 19, 13, 18, 10, 12, 11], [], [24], [1, 3, 5, 7, 9, 13, 15, 17, 20, 23, 25, 0, 2, 4, 6, 8, 10, 12, 11, 14, 16, 19, 18, 22, 21, 24], [26, 23, 0, 1, 2, 3, 4, 5, 6, 7, 8, 9, 10, 11, 12, 13, 14, 15, 16, 17, 18, 19, 20, 21, 22, 24, 25]] [13, 20, 23, 27] [13, 20, 23, 26, 27] [[], [], [], [], [], [], [], [], [], [], [], [], [], [], [], [], [], [], [], [], [], [], [], [], [], [], [], [13, 20, 23, 26]] [[], [], [], [], [], [], [], [], [], [], [], [], [], [], [], [], [], [], [], [], [], [], [], [], [], [], [13, 20, 23], [13, 20, 23, 26]] [27] [27] [] []
      [some ?v0, some ?v1, some ?v2, some ?v3, some ?v4, some ?v5, some ?v6, some ?v7, some ?v8, some ?v9, some ?v10, some ?v11, some ?v12, none, some ?v14, some ?v15, some ?v16, some ?v17, some ?v18, some ?v19, none, some ?v21, some ?v22, none, some ?v24, some ?v25, none, none]
      ?T (fun wx => Is wx bx 42 #[.bool p.marker, .int .u8 p.ty, .int .u16 p.seq, .int .u32 p.time, .int .u32 p.ssrc, vc, .bool p.hasExt, .int .u16 p.profile, ve, vp, .int .u8 p.pad] ∧ Is wx rb 74 zeros ∧ Only (fun _ => False) w wx) ?W ?E (by kernel_rfl) (by kernel_rfl) (by kernel_rfl) (fun x => ?hT) ?hF ?hini (Reg.all_ops ?runs) ?pres ?fin
  case W => exact fun j x w' => match j with | 13 => (∃ A c, x 13 = .slice A p.csrc.length c) ∧ w'.ownsRow w.heap.size 38 1 (x 13) p.csrc.length (cells32 p.csrc) | 20 => (∃ A c, x 20 = .slice A p.ext.length c) ∧ w'.ownsRow w.heap.size 5 1 (x 20) p.ext.length (cellsOf p.ext) | 23 => (∃ A c, x 23 = .slice A p.pay.length c) ∧ w'.ownsRow w.heap.size 5 1 (x 23) p.pay.length (cellsOf p.pay) | 26 => x 26 = .agg #[.bool p.marker, .int .u8 p.ty, .int .u16 p.seq, .int .u32 p.time, .int .u32 p.ssrc, x 13, .bool p.hasExt, .int .u16 p.profile, x 20, x 23, .int .u8 p.pad] | 27 => ((∃ A c, x 13 = .slice A p.csrc.length c) ∧ w'.ownsRow w.heap.size 38 1 (x 13) p.csrc.length (cells32 p.csrc)) ∧ ((∃ A c, x 20 = .slice A p.ext.length c) ∧ w'.ownsRow w.heap.size 5 1 (x 20) p.ext.length (cellsOf p.ext)) ∧ ((∃ A c, x 23 = .slice A p.pay.length c) ∧ w'.ownsRow w.heap.size 5 1 (x 23) p.pay.length (cellsOf p.pay)) ∧ Is w' rb 74 #[.bool p.marker, .int .u8 p.ty, .int .u16 p.seq, .int .u32 p.time, .int .u32 p.ssrc, x 13, .bool p.hasExt, .int .u16 p.profile, x 20, x 23, .int .u8 p.pad] ∧ Only (fun j => j = rb) w w' | _ => True
  case E => exact fun i w' w'' => match i with | 27 => True | _ => Only (fun _ => False) w' w''
  case hT =>
    simp only [Reg.fillV, Act.put, List.setIfInBounds_toArray, List.set_cons_zero, List.set_cons_succ]
    rfl
  case runs =>
    refine And.intro ?_ ?_
    · refine Reg.ob_pure (fun _ => rfl) rfl rfl rfl rfl (fun x w1 hF => ?_)
      obtain ⟨hI, hR, hO⟩ := hF
      have g0 := hI.cell 0
      have g1 := hI.cell 1
      have g2 := hI.cell 2
      have g3 := hI.cell 3
      have g4 := hI.cell 4
      have g5 := hI.cell 5
      have g6 := hI.cell 6
      have g7 := hI.cell 7
      have g8 := hI.cell 8
      have g9 := hI.cell 9
      have g10 := hI.cell 10
      simp at g0 g1 g2 g3 g4 g5 g6 g7 g8 g9 g10
      clear hI hR hO
      go_simp
      with_reducible rfl
    refine And.intro ?_ ?_
    · refine Reg.ob_pure (fun _ => rfl) rfl rfl rfl rfl (fun x w1 hF => ?_)
      obtain ⟨hI, hR, hO⟩ := hF
      have g0 := hI.cell 0
      have g1 := hI.cell 1
      have g2 := hI.cell 2
      have g3 := hI.cell 3
      have g4 := hI.cell 4
      have g5 := hI.cell 5
      have g6 := hI.cell 6
      have g7 := hI.cell 7
      have g8 := hI.cell 8
      have g9 := hI.cell 9
      have g10 := hI.cell 10
      simp at g0 g1 g2 g3 g4 g5 g6 g7 g8 g9 g10
      clear hI hR hO
      go_simp
      with_reducible rfl
    refine And.intro ?_ ?_
    · refine Reg.ob_pure (fun _ => rfl) rfl rfl rfl rfl (fun x w1 hF => ?_)
      obtain ⟨hI, hR, hO⟩ := hF
      have g0 := hI.cell 0
      have g1 := hI.cell 1
      have g2 := hI.cell 2
      have g3 := hI.cell 3
      have g4 := hI.cell 4
      have g5 := hI.cell 5
      have g6 := hI.cell 6
      have g7 := hI.cell 7
      have g8 := hI.cell 8
      have g9 := hI.cell 9
      have g10 := hI.cell 10
      simp at g0 g1 g2 g3 g4 g5 g6 g7 g8 g9 g10
      clear hI hR hO
      go_simp
      with_reducible rfl
    refine And.intro ?_ ?_
    · refine Reg.ob_pure (fun _ => rfl) rfl rfl rfl rfl (fun x w1 hF => ?_)
      obtain ⟨hI, hR, hO⟩ := hF
      have g0 := hI.cell 0
      have g1 := hI.cell 1
      have g2 := hI.cell 2
      have g3 := hI.cell 3
      have g4 := hI.cell 4
      have g5 := hI.cell 5
      have g6 := hI.cell 6
      have g7 := hI.cell 7
      have g8 := hI.cell 8
      have g9 := hI.cell 9
      have g10 := hI.cell 10
      simp at g0 g1 g2 g3 g4 g5 g6 g7 g8 g9 g10
      clear hI hR hO
      go_simp
      with_reducible rfl
    refine And.intro ?_ ?_
    · refine Reg.ob_pure (fun _ => rfl) rfl rfl rfl rfl (fun x w1 hF => ?_)
      obtain ⟨hI, hR, hO⟩ := hF
      have g0 := hI.cell 0
      have g1 := hI.cell 1
      have g2 := hI.cell 2
      have g3 := hI.cell 3
      have g4 := hI.cell 4
      have g5 := hI.cell 5
      have g6 := hI.cell 6
      have g7 := hI.cell 7
      have g8 := hI.cell 8
      have g9 := hI.cell 9
      have g10 := hI.cell 10
      simp at g0 g1 g2 g3 g4 g5 g6 g7 g8 g9 g10
      clear hI hR hO
      go_simp
      with_reducible rfl
    refine And.intro ?_ ?_
    · refine Reg.ob_pure (fun _ => rfl) rfl rfl rfl rfl (fun x w1 hF => ?_)
      obtain ⟨hI, hR, hO⟩ := hF
      have g0 := hI.cell 0
      have g1 := hI.cell 1
      have g2 := hI.cell 2
      have g3 := hI.cell 3
      have g4 := hI.cell 4
      have g5 := hI.cell 5
      have g6 := hI.cell 6
      have g7 := hI.cell 7
      have g8 := hI.cell 8
      have g9 := hI.cell 9
      have g10 := hI.cell 10
      simp at g0 g1 g2 g3 g4 g5 g6 g7 g8 g9 g10
      clear hI hR hO
      go_simp
      with_reducible rfl
    refine And.intro ?_ ?_
    · refine Reg.ob_pure (fun _ => rfl) rfl rfl rfl rfl (fun x w1 hF => ?_)
      obtain ⟨hI, hR, hO⟩ := hF
      have g0 := hI.cell 0
      have g1 := hI.cell 1
      have g2 := hI.cell 2
      have g3 := hI.cell 3
      have g4 := hI.cell 4
      have g5 := hI.cell 5
      have g6 := hI.cell 6
      have g7 := hI.cell 7
      have g8 := hI.cell 8
      have g9 := hI.cell 9
      have g10 := hI.cell 10
      simp at g0 g1 g2 g3 g4 g5 g6 g7 g8 g9 g10
      clear hI hR hO
      go_simp
      with_reducible rfl
    refine And.intro ?_ ?_
    · refine Reg.ob_pure (fun _ => rfl) rfl rfl rfl rfl (fun x w1 hF => ?_)
      obtain ⟨hI, hR, hO⟩ := hF
      have g0 := hI.cell 0
      have g1 := hI.cell 1
      have g2 := hI.cell 2
      have g3 := hI.cell 3
      have g4 := hI.cell 4
      have g5 := hI.cell 5
      have g6 := hI.cell 6
      have g7 := hI.cell 7
      have g8 := hI.cell 8
      have g9 := hI.cell 9
      have g10 := hI.cell 10
      simp at g0 g1 g2 g3 g4 g5 g6 g7 g8 g9 g10
      clear hI hR hO
      go_simp
      with_reducible rfl
    refine And.intro ?_ ?_
    · refine Reg.ob_pure (fun _ => rfl) rfl rfl rfl rfl (fun x w1 hF => ?_)
      obtain ⟨hI, hR, hO⟩ := hF
      have g0 := hI.cell 0
      have g1 := hI.cell 1
      have g2 := hI.cell 2
      have g3 := hI.cell 3
      have g4 := hI.cell 4
      have g5 := hI.cell 5
      have g6 := hI.cell 6
      have g7 := hI.cell 7
      have g8 := hI.cell 8
      have g9 := hI.cell 9
      have g10 := hI.cell 10
      simp at g0 g1 g2 g3 g4 g5 g6 g7 g8 g9 g10
      clear hI hR hO
      go_simp
      with_reducible rfl
    refine And.intro ?_ ?_
    · refine Reg.ob_pure (fun _ => rfl) rfl rfl rfl rfl (fun x w1 hF => ?_)
      obtain ⟨hI, hR, hO⟩ := hF
      have g0 := hI.cell 0
      have g1 := hI.cell 1
      have g2 := hI.cell 2
      have g3 := hI.cell 3
      have g4 := hI.cell 4
      have g5 := hI.cell 5
      have g6 := hI.cell 6
      have g7 := hI.cell 7
      have g8 := hI.cell 8
      have g9 := hI.cell 9
      have g10 := hI.cell 10
      simp at g0 g1 g2 g3 g4 g5 g6 g7 g8 g9 g10
      clear hI hR hO
      go_simp
      with_reducible rfl
    refine And.intro ?_ ?_
    · refine Reg.ob_pure (fun _ => rfl) rfl rfl rfl rfl (fun x w1 hF => ?_)
      obtain ⟨hI, hR, hO⟩ := hF
      have g0 := hI.cell 0
      have g1 := hI.cell 1
      have g2 := hI.cell 2
      have g3 := hI.cell 3
      have g4 := hI.cell 4
      have g5 := hI.cell 5
      have g6 := hI.cell 6
      have g7 := hI.cell 7
      have g8 := hI.cell 8
      have g9 := hI.cell 9
      have g10 := hI.cell 10
      simp at g0 g1 g2 g3 g4 g5 g6 g7 g8 g9 g10
      clear hI hR hO
      go_simp
      with_reducible rfl
    refine And.intro ?_ ?_
    · refine Reg.ob_pure (fun _ => rfl) rfl rfl rfl rfl (fun x w1 hF => ?_)
      obtain ⟨hI, hR, hO⟩ := hF
      have g0 := hI.cell 0
      have g1 := hI.cell 1
      have g2 := hI.cell 2
      have g3 := hI.cell 3
      have g4 := hI.cell 4
      have g5 := hI.cell 5
      have g6 := hI.cell 6
      have g7 := hI.cell 7
      have g8 := hI.cell 8
      have g9 := hI.cell 9
      have g10 := hI.cell 10
      simp at g0 g1 g2 g3 g4 g5 g6 g7 g8 g9 g10
      clear hI hR hO
      go_simp
      with_reducible rfl
    refine And.intro ?_ ?_
    · refine Reg.ob_pure (fun _ => rfl) rfl rfl rfl rfl (fun x w1 hF => ?_)
      obtain ⟨hI, hR, hO⟩ := hF
      have g0 := hI.cell 0
      have g1 := hI.cell 1
      have g2 := hI.cell 2
      have g3 := hI.cell 3
      have g4 := hI.cell 4
      have g5 := hI.cell 5
      have g6 := hI.cell 6
      have g7 := hI.cell 7
      have g8 := hI.cell 8
      have g9 := hI.cell 9
      have g10 := hI.cell 10
      simp at g0 g1 g2 g3 g4 g5 g6 g7 g8 g9 g10
      clear hI hR hO
      go_simp
      with_reducible rfl
    refine And.intro ?_ ?_
    · refine Reg.ob_some (fun _ => rfl) rfl (fun x w1 hF hU K hK => ?_)
      obtain ⟨hI, hR, hO⟩ := hF rfl
      refine app32 w1 (.tmp 14) (.tmp 16) rfl w.heap.size vc p.csrc rfl rfl HN0.out (HC.out.only hO (by simp)) (by have := HL.out.1; omega) hO.size ?_
      intro A1 k1 w3 hv ho
      exact hK _ w3 (fun _ _ _ => ⟨hI.only ho (by simp), hR.only ho (by simp), only_more hO ho⟩) ho ⟨⟨A1, k1, rfl⟩, hv⟩
    refine And.intro ?_ ?_
    · refine Reg.ob_pure (fun _ => rfl) rfl rfl rfl rfl (fun x w1 hF => ?_)
      obtain ⟨hI, hR, hO⟩ := hF
      have g0 := hI.cell 0
      have g1 := hI.cell 1
      have g2 := hI.cell 2
      have g3 := hI.cell 3
      have g4 := hI.cell 4
      have g5 := hI.cell 5
      have g6 := hI.cell 6
      have g7 := hI.cell 7
      have g8 := hI.cell 8
      have g9 := hI.cell 9
      have g10 := hI.cell 10
      simp at g0 g1 g2 g3 g4 g5 g6 g7 g8 g9 g10
      clear hI hR hO
      go_simp
      with_reducible rfl
    refine And.intro ?_ ?_
    · refine Reg.ob_pure (fun _ => rfl) rfl rfl rfl rfl (fun x w1 hF => ?_)
      obtain ⟨hI, hR, hO⟩ := hF
      have g0 := hI.cell 0
      have g1 := hI.cell 1
      have g2 := hI.cell 2
      have g3 := hI.cell 3
      have g4 := hI.cell 4
      have g5 := hI.cell 5
      have g6 := hI.cell 6
      have g7 := hI.cell 7
      have g8 := hI.cell 8
      have g9 := hI.cell 9
      have g10 := hI.cell 10
      simp at g0 g1 g2 g3 g4 g5 g6 g7 g8 g9 g10
      clear hI hR hO
      go_simp
      with_reducible rfl
    refine And.intro ?_ ?_
    · refine Reg.ob_pure (fun _ => rfl) rfl rfl rfl rfl (fun x w1 hF => ?_)
      obtain ⟨hI, hR, hO⟩ := hF
      have g0 := hI.cell 0
      have g1 := hI.cell 1
      have g2 := hI.cell 2
      have g3 := hI.cell 3
      have g4 := hI.cell 4
      have g5 := hI.cell 5
      have g6 := hI.cell 6
      have g7 := hI.cell 7
      have g8 := hI.cell 8
      have g9 := hI.cell 9
      have g10 := hI.cell 10
      simp at g0 g1 g2 g3 g4 g5 g6 g7 g8 g9 g10
      clear hI hR hO
      go_simp
      with_reducible rfl
    refine And.intro ?_ ?_
    · refine Reg.ob_pure (fun _ => rfl) rfl rfl rfl rfl (fun x w1 hF => ?_)
      obtain ⟨hI, hR, hO⟩ := hF
      have g0 := hI.cell 0
      have g1 := hI.cell 1
      have g2 := hI.cell 2
      have g3 := hI.cell 3
      have g4 := hI.cell 4
      have g5 := hI.cell 5
      have g6 := hI.cell 6
      have g7 := hI.cell 7
      have g8 := hI.cell 8
      have g9 := hI.cell 9
      have g10 := hI.cell 10
      simp at g0 g1 g2 g3 g4 g5 g6 g7 g8 g9 g10
      clear hI hR hO
      go_simp
      with_reducible rfl
    refine And.intro ?_ ?_
    · refine Reg.ob_pure (fun _ => rfl) rfl rfl rfl rfl (fun x w1 hF => ?_)
      obtain ⟨hI, hR, hO⟩ := hF
      have g0 := hI.cell 0
      have g1 := hI.cell 1
      have g2 := hI.cell 2
      have g3 := hI.cell 3
      have g4 := hI.cell 4
      have g5 := hI.cell 5
      have g6 := hI.cell 6
      have g7 := hI.cell 7
      have g8 := hI.cell 8
      have g9 := hI.cell 9
      have g10 := hI.cell 10
      simp at g0 g1 g2 g3 g4 g5 g6 g7 g8 g9 g10
      clear hI hR hO
      go_simp
      with_reducible rfl
    refine And.intro ?_ ?_
    · refine Reg.ob_pure (fun _ => rfl) rfl rfl rfl rfl (fun x w1 hF => ?_)
      obtain ⟨hI, hR, hO⟩ := hF
      have g0 := hI.cell 0
      have g1 := hI.cell 1
      have g2 := hI.cell 2
      have g3 := hI.cell 3
      have g4 := hI.cell 4
      have g5 := hI.cell 5
      have g6 := hI.cell 6
      have g7 := hI.cell 7
      have g8 := hI.cell 8
      have g9 := hI.cell 9
      have g10 := hI.cell 10
      simp at g0 g1 g2 g3 g4 g5 g6 g7 g8 g9 g10
      clear hI hR hO
      go_simp
      with_reducible rfl
    refine And.intro ?_ ?_
    · refine Reg.ob_some (fun _ => rfl) rfl (fun x w1 hF hU K hK => ?_)
      obtain ⟨hI, hR, hO⟩ := hF rfl
      go_simp
      refine (kitown_is ve p.ext w1 w.heap.size hO.size (HE.out.of_only hO) (by have := HL.out.2.1; omega)).mono ?_
      rintro e w3 ⟨v, rfl, hv, ho, -⟩
      rw [length_cellsOf] at hv
      obtain ⟨A1, k1, rfl, -⟩ := own_slice hv
      exact hK _ w3 (fun _ _ _ => ⟨hI.only ho (by simp), hR.only ho (by simp), only_more hO ho⟩) ho ⟨⟨A1, k1, rfl⟩, hv⟩
    refine And.intro ?_ ?_
    · refine Reg.ob_pure (fun _ => rfl) rfl rfl rfl rfl (fun x w1 hF => ?_)
      obtain ⟨hI, hR, hO⟩ := hF
      have g0 := hI.cell 0
      have g1 := hI.cell 1
      have g2 := hI.cell 2
      have g3 := hI.cell 3
      have g4 := hI.cell 4
      have g5 := hI.cell 5
      have g6 := hI.cell 6
      have g7 := hI.cell 7
      have g8 := hI.cell 8
      have g9 := hI.cell 9
      have g10 := hI.cell 10
      simp at g0 g1 g2 g3 g4 g5 g6 g7 g8 g9 g10
      clear hI hR hO
      go_simp
      with_reducible rfl
    refine And.intro ?_ ?_
    · refine Reg.ob_pure (fun _ => rfl) rfl rfl rfl rfl (fun x w1 hF => ?_)
      obtain ⟨hI, hR, hO⟩ := hF
      have g0 := hI.cell 0
      have g1 := hI.cell 1
      have g2 := hI.cell 2
      have g3 := hI.cell 3
      have g4 := hI.cell 4
      have g5 := hI.cell 5
      have g6 := hI.cell 6
      have g7 := hI.cell 7
      have g8 := hI.cell 8
      have g9 := hI.cell 9
      have g10 := hI.cell 10
      simp at g0 g1 g2 g3 g4 g5 g6 g7 g8 g9 g10
      clear hI hR hO
      go_simp
      with_reducible rfl
    refine And.intro ?_ ?_
    · refine Reg.ob_some (fun _ => rfl) rfl (fun x w1 hF hU K hK => ?_)
      obtain ⟨hI, hR, hO⟩ := hF rfl
      go_simp
      refine (kitown_is vp p.pay w1 w.heap.size hO.size (HP.out.of_only hO) (by have := HL.out.2.2; omega)).mono ?_
      rintro e w3 ⟨v, rfl, hv, ho, -⟩
      rw [length_cellsOf] at hv
      obtain ⟨A1, k1, rfl, -⟩ := own_slice hv
      exact hK _ w3 (fun _ _ _ => ⟨hI.only ho (by simp), hR.only ho (by simp), only_more hO ho⟩) ho ⟨⟨A1, k1, rfl⟩, hv⟩
    refine And.intro ?_ ?_
    · refine Reg.ob_pure (fun _ => rfl) rfl rfl rfl rfl (fun x w1 hF => ?_)
      obtain ⟨hI, hR, hO⟩ := hF
      have g0 := hI.cell 0
      have g1 := hI.cell 1
      have g2 := hI.cell 2
      have g3 := hI.cell 3
      have g4 := hI.cell 4
      have g5 := hI.cell 5
      have g6 := hI.cell 6
      have g7 := hI.cell 7
      have g8 := hI.cell 8
      have g9 := hI.cell 9
      have g10 := hI.cell 10
      simp at g0 g1 g2 g3 g4 g5 g6 g7 g8 g9 g10
      clear hI hR hO
      go_simp
      with_reducible rfl
    refine And.intro ?_ ?_
    · refine Reg.ob_pure (fun _ => rfl) rfl rfl rfl rfl (fun x w1 hF => ?_)
      obtain ⟨hI, hR, hO⟩ := hF
      have g0 := hI.cell 0
      have g1 := hI.cell 1
      have g2 := hI.cell 2
      have g3 := hI.cell 3
      have g4 := hI.cell 4
      have g5 := hI.cell 5
      have g6 := hI.cell 6
      have g7 := hI.cell 7
      have g8 := hI.cell 8
      have g9 := hI.cell 9
      have g10 := hI.cell 10
      simp at g0 g1 g2 g3 g4 g5 g6 g7 g8 g9 g10
      clear hI hR hO
      go_simp
      with_reducible rfl
    refine And.intro ?_ ?_
    · refine Reg.ob_some (fun _ => rfl) rfl (fun x w1 hF hU K hK => ?_)
      obtain ⟨⟨⟨A1, k1, h13⟩, -⟩, ⟨⟨A2, k2, h20⟩, -⟩, ⟨⟨A3, k3, h23⟩, -⟩, -⟩ := hU
      have h13 : x 13 = .slice A1 p.csrc.length k1 := h13
      have h20 : x 20 = .slice A2 p.ext.length k2 := h20
      have h23 : x 23 = .slice A3 p.pay.length k3 := h23
      revert hK
      simp only [Nat.reduceAdd, h13, h20, h23]
      intro hK
      go_simp
      exact hK _ w1 (fun h => by cases h) rfl (by show _ = Value.agg #[_, _, _, _, _, x 13, _, _, x 20, x 23, _]; rw [h13, h20, h23]; rfl)
    refine And.intro ?_ ?_
    · refine Reg.ob_some (fun _ => rfl) rfl (fun x w1 hF hU K hK => ?_)
      obtain ⟨hI, hR, hO⟩ := hF rfl
      obtain ⟨⟨⟨A1, k1, h13⟩, g13⟩, ⟨⟨A2, k2, h20⟩, g20⟩, ⟨⟨A3, k3, h23⟩, g23⟩, h26, -⟩ := hU
      have h13 : x 13 = .slice A1 p.csrc.length k1 := h13
      have h20 : x 20 = .slice A2 p.ext.length k2 := h20
      have h23 : x 23 = .slice A3 p.pay.length k3 := h23
      have g13 : w1.ownsRow w.heap.size 38 1 (x 13) p.csrc.length (cells32 p.csrc) := g13
      have g20 : w1.ownsRow w.heap.size 5 1 (x 20) p.ext.length (cellsOf p.ext) := g20
      have g23 : w1.ownsRow w.heap.size 5 1 (x 23) p.pay.length (cellsOf p.pay) := g23
      have h26 : x 26 = .agg #[.bool p.marker, .int .u8 p.ty, .int .u16 p.seq, .int .u32 p.time, .int .u32 p.ssrc, x 13, .bool p.hasExt, .int .u16 p.profile, x 20, x 23, .int .u8 p.pad] := h26
      refine wp_store_row 74 _ _ rfl rb #[.bool p.marker, .int .u8 p.ty, .int .u16 p.seq, .int .u32 p.time, .int .u32 p.ssrc, x 13, .bool p.hasExt, .int .u16 p.profile, x 20, x 23, .int .u8 p.pad] rfl (by simpa [Act.eval] using h26) 74 zeros hR Try.sizeRk rfl (by rw [h13, h20, h23]; simp [Value.oneCell']) ?_
      have ho : Only (fun j => j = rb) w1 (w1.setRow rb #[.bool p.marker, .int .u8 p.ty, .int .u16 p.seq, .int .u32 p.time, .int .u32 p.ssrc, x 13, .bool p.hasExt, .int .u16 p.profile, x 20, x 23, .int .u8 p.pad]) := Only.setRow (S := fun j => j = rb) (Only.refl _ w1) (fun _ => rfl) _
      exact hK _ _ (fun _ h _ => by cases h) trivial ⟨⟨⟨A1, k1, h13⟩, own_only g13 ho (fun q hq e => row_apart hR g13 (by decide) (by rw [← e]; exact hq))⟩, ⟨⟨A2, k2, h20⟩, own_only g20 ho (fun q hq e => row_apart hR g20 (by decide) (by rw [← e]; exact hq))⟩, ⟨⟨A3, k3, h23⟩, own_only g23 ho (fun q hq e => row_apart hR g23 (by decide) (by rw [← e]; exact hq))⟩, hR.setRow _, (hO.mono (fun _ _ h => h.elim)).trans ho (fun i _ e => e)⟩
    exact trivial
  case hF =>
    exact ⟨HI.out, HR.out, O0.out.drewN 1⟩
  case hini =>
    exact trivial
  case pres =>
    intro i hi j hj hc x w1 w2 hF hE hW
    simp only [List.mem_cons, List.mem_nil_iff, or_false] at hi hj
    rcases hj with rfl | rfl | rfl | rfl | rfl <;> rcases hi with rfl | rfl | rfl | rfl
    all_goals first
      | (exfalso; revert hc; decide)
      | exact hW
      | (obtain ⟨h3, hg⟩ := hW; exact ⟨h3, own_only hg hE (by simp)⟩)
  case fin =>
    rintro x w1 - ⟨⟨⟨⟨A1, k1, h13⟩, g13⟩, ⟨⟨A2, k2, h20⟩, g20⟩, ⟨⟨A3, k3, h23⟩, g23⟩, hI, hO⟩, -⟩
    have h13 : x 13 = .slice A1 p.csrc.length k1 := h13
    have h20 : x 20 = .slice A2 p.ext.length k2 := h20
    have h23 : x 23 = .slice A3 p.pay.length k3 := h23
    have g13 : w1.ownsRow w.heap.size 38 1 (x 13) p.csrc.length (cells32 p.csrc) := g13
    have g20 : w1.ownsRow w.heap.size 5 1 (x 20) p.ext.length (cellsOf p.ext) := g20
    have g23 : w1.ownsRow w.heap.size 5 1 (x 23) p.pay.length (cellsOf p.pay) := g23
    have hI : Is w1 rb 74 #[.bool p.marker, .int .u8 p.ty, .int .u16 p.seq, .int .u32 p.time, .int .u32 p.ssrc, x 13, .bool p.hasExt, .int .u16 p.profile, x 20, x 23, .int .u8 p.pad] := hI
    have hO : Only (fun j => j = rb) w w1 := hO
    simp only [Nat.reduceAdd, h13, h20, h23] at g13 g20 g23 hI ⊢
    go_wp2_with fail
    exact bodyPost_ret (results_cell_row Try.results26 _ w1 rb 74 _ (0, 0) _ rfl hI Try.underlying74 rfl Try.sizeRk) rfl ⟨_, _, _, rfl, g13, g20, g23, hO.mono (fun i hi e => by have := RB.out; omega)⟩
end Go.Proofs.Ytdcclighccejhaa
