/- rtcp.Split: its walk. Conditions: as it says. -/
import Derived.Test.YtdhkcffjhcoloaaRcC
import Derived.Deep.RegionHeld3
set_option linter.unusedVariables false
namespace Go.Proofs.Ytdhkcffjhcoloaa
open Go.RowKit

/-- A packet in new memory is appended. -/
theorem step_append_pk {ops : Array Oper} {o : Oper} {a : Act} {K : Act → World → Prop} {Q : Exit → Act → World → Prop} {E : Prop} (wr : World) (hgd : o.guard = none) (s x : Operand)
    (ho : o.op = .call { callee := .builtin .append, args := #[s, x], argTypes := #[22, 22] })
    (B : Nat) (v : Value) (xss : List (List Value)) (p : Pkt) (u : Value) (hu : ∃ A n c, u = .slice A n c) (hs : a.eval s = v) (hown : OwnS wr B 36 4 v xss)
    (hx : a.eval x = .slice (some ⟨wr.heap.size, 0, none⟩) 1 1) (hl : xss.length ≤ 100000) (hB : B ≤ wr.heap.size)
    (h : ∀ v' w', OwnS w' B 36 4 v' (xss ++ [p.lst u]) → Only (fun k => v.ownBlock = some k) wr w' → K (a.put o.dst v') w') :
    if Region.wanted o (yielded ops a.tmps) = true then Oper.wp Try.prog o a (wr.alloc (.cells #[.int .u8 (p.count : Nat), .int .u8 (p.kind : Nat), u, .int .u8 (p.pad : Nat)] 36)) K Q else E :=
  step_append_struct _ hgd s x sty_pk ho B v xss hs (hown.only ((Only.refl (fun _ => False) wr).alloc _) (by simp)) wr.heap.size (p.lst u) hx (Is.made wr _ _) rfl (by obtain ⟨A, n, c, rfl⟩ := hu; simp [Pkt.lst, Value.oneCell']) hl (by decide) (by simp; omega)
    (fun v' w' h1 h2 => h v' w' h1 (((Only.refl _ wr).alloc _).trans h2 (fun i hi e => e)))
theorem slice_one (A : Option Addr) (n c : Nat) : (Value.slice A n c).oneCell' = true := rfl

/-- A round of Split, told. -/
theorem spl_next {T : TypeId} (hT : T ≠ 5) {bs rest : List Nat} {done : List Pkt} {vs : List Value} {s4 v2 u : Value} {w wr w1 w2 w3 : World} {sz : Nat} {p : Pkt} (hp : Spl T bs w rest done vs s4 wr) (O1 : Only (fun _ => False) wr w1)
    (HU : w1.ownsRow wr.heap.size 5 1 u p.body.length (cellsOf p.body)) (O12 : Only (fun _ => False) w1 w2) (hr3 : OwnS w3 w.heap.size T 4 v2 (List.zipWith Pkt.lst done vs ++ [p.lst u]))
    (hp2 : Only (fun k => s4.ownBlock = some k) w2.drew w3) (h4 : 4 ≤ sz) (hl : sz ≤ rest.length) (he : spl true bs = ((spl false (rest.drop sz)).1, (done ++ [p]) ++ (spl false (rest.drop sz)).2)) :
    Spl T bs w (rest.drop sz) (done ++ [p]) (vs ++ [u]) v2 w3 := by
  have O23 : Only (fun k => s4.ownBlock = some k) w2 w3 := (Only.refl _ w2).drew.trans hp2 (fun _ _ e => e)
  have O2 : Only (fun _ => False) wr w2 := O1.trans O12 (fun _ _ e => e)
  have ROW := hp.pks.row.only O2 (by simp)
  have hsz := hp.pure.size
  refine ⟨⟨by rw [zip_snoc hp.pks.len]; exact hr3, ?_⟩, ?_, fun x hx => hp.bytes x (List.mem_of_mem_drop hx), ?_, ?_⟩
  · rw [List.map_append]
    exact ((hp.pks.bods.snoc hsz O1 HU).pure O12).far ROW.1 hT O23
  · exact (hp.pure.trans O2 (fun _ _ e => e)).trans O23 (fun i hi e => by have := (ROW.lt i e).1; omega)
  · have := hp.len
    rw [List.length_append, List.length_drop]
    simp only [List.length_cons, List.length_nil]
    omega
  · rw [he, List.length_append]
    simp

set_option maxRecDepth 100000 in
set_option maxHeartbeats 4000000 in
theorem split_is (v : Value) (bs : List Nat) (w : World) (hs : Src w v bs) (hb : ∀ x ∈ bs, x < 256) (hl : bs.length ≤ 100000) :
    Calls Try.prog 22 #[v] w (SplitEnd 36 (spl true bs) w) := by
  obtain ⟨A, c, rfl⟩ := hs.slice
  have HS := Lib.hid hs
  have HB := Lib.hid hb
  clear hs hb
  go_enter Try.func22, Try.ntmps22
  go_wp2
  go_loopw [0, 4] (fun s0 s4 wr => ∃ (rest : List Nat) (done : List Pkt) (vs : List Value), Src w s0 rest ∧ Spl 36 bs w rest done vs s4 wr) (fun s0 _ _ => (match s0 with | .slice _ n _ => n | _ => 0 : Nat))
  case atStart =>
    exact ⟨bs, [], [], HS.out, Pks.nil _ _ _, Only.refl _ _, HB.out, by simp, by simp⟩
  case round =>
    obtain ⟨rest, done, vs, hsrc, hspl⟩ := hrel
    obtain ⟨A0, c0, rfl⟩ := hsrc.slice
    obtain ⟨A4, c4, rfl, hc4⟩ := hspl.pks.slice
    have HP := Lib.hid hspl
    have HR := Lib.hid (hsrc.only hspl.pure (by simp))
    have HRW := Lib.hid hsrc
    have hlen := hspl.len
    clear hspl hsrc
    obtain ⟨lead, hlead⟩ : ∃ b, decide (done.length = 0) = b := ⟨_, rfl⟩
    have HLD := Lib.hid hlead
    have zd : ((done.length : Int) == 0) = lead := by rw [← hlead, Bool.eq_iff_iff]; simp
    clear hlead
    by_cases hend : lead = false ∧ rest.length = 0
    · obtain ⟨rfl, hr0⟩ := hend
      have zr : decide ((0 : Int) < (rest.length : Int)) = false := decide_eq_false (by omega)
      have zr' : decide (0 < rest.length) = false := decide_eq_false (by omega)
      have HEQ := Lib.hid (show spl true bs = (0, done) from by rw [HP.out.eq, HLD.out, List.eq_nil_of_length_eq_zero hr0, spl_end, List.append_nil])
      clear hlen hc4 hl
      go_wp2
      go_ret2
      rw [HEQ.out]
      exact ⟨HP.out.pure, .inr ⟨rfl, _, vs, rfl, HP.out.pks⟩⟩
    · have HEND := Lib.hid hend
      have hways : (lead = true) ∨ (lead = false ∧ decide ((0 : Int) < (rest.length : Int)) = true ∧ decide (0 < rest.length) = true) := by
        cases lead
        · right
          have : 0 < rest.length := by
            rcases Nat.eq_zero_or_pos rest.length with h | h
            · exact absurd ⟨rfl, h⟩ hend
            · exact h
          exact ⟨rfl, decide_eq_true (by omega), decide_eq_true this⟩
        · exact .inl rfl
      by_cases he : oneErr rest lead = 0
      · have HG := Lib.hid (one_good (w := wr) HR.out HP.out.bytes (by omega) he)
        have HO := Lib.hid (one_len he)
        have HE := Lib.hid he
        clear hend he
        have HLL := Lib.hid hl
        have HLN := Lib.hid hlen
        obtain ⟨sz, hsz⟩ : ∃ sz, oneSz rest = sz := ⟨_, rfl⟩
        have HSZ := Lib.hid hsz
        have hsz4 : 4 ≤ sz := by rw [← hsz]; unfold oneSz; omega
        have hszl : sz ≤ rest.length := by rw [← hsz]; exact HO.out.2
        rw [hsz] at HG
        have HC0 := Lib.hid (HR.out.cap (by omega))
        obtain ⟨g, o, c', e1, hc0, -⟩ := HC0.out
        injection e1 with e1 _ e3
        subst e1 e3
        have HEQ := Lib.hid (show spl true bs = ((spl false (rest.drop sz)).1, (done ++ [pkOf rest]) ++ (spl false (rest.drop sz)).2) from by rw [HP.out.eq, HLD.out, spl_go HEND.out HE.out, ← hsz]; simp)
        have HLX := Lib.hid (show (rest.drop sz).length = rest.length - sz from by rw [List.length_drop])
        clear hsz hl hlen hc4
        rcases hways with rfl | ⟨rfl, z1, z2⟩
        all_goals
          go_upto_region 6 with (first
            | (go_at_call 53; refine HG.out.mono ?_; rintro e w1 ⟨u, rfl, ho1, hu1, hsl⟩; have O1 := Lib.hid ho1; have HU := Lib.hid hu1; have HSL := Lib.hid hsl; have V1 := Lib.hid (show ((pkOf rest).lst u).toArray.all (·.oneCell') = true from by obtain ⟨Au, cu, rfl⟩ := hsl; simp [Pkt.lst, Value.oneCell']); clear ho1 hu1 hsl)
            | (refine wpList_store_is rfl 36 _ _ rfl w1.heap.size ((pkOf rest).lst u).toArray rfl rfl 36 zeroP (Is.made _ _ zeroP) Try.sizeRc rfl V1.out ?_; intro w2 hi2 ho2))
          have O2 := Lib.hid (O1.out.trans (only_made ho2) (fun _ _ e => e))
          have O12 := Lib.hid (only_made ho2)
          obtain ⟨pb, hpb⟩ : ∃ pb, w1.heap.size = pb := ⟨_, rfl⟩
          rw [hpb] at hi2 ⊢
          have HPB := Lib.hid (show wr.heap.size ≤ pb from by have := O1.out.size; omega)
          have HI2 := Lib.hid hi2
          clear hi2 ho2 hpb
          have q0 := HI2.out.cell 0
          have q1 := HI2.out.cell 1
          have q2 := HI2.out.cell 2
          have q3 := HI2.out.cell 3
          simp [Pkt.lst] at q0 q1 q2 q3
          have KF := Lib.hid (show ∀ w', Is w' pb 36 ((pkOf rest).lst u).toArray → w'.cell? ⟨pb, 0, none⟩ = some (.int .u8 ((pkOf rest).count : Nat)) ∧ w'.cell? ⟨pb, 1, none⟩ = some (.int .u8 ((pkOf rest).kind : Nat)) ∧ w'.cell? ⟨pb, 2, none⟩ = some u ∧ w'.cell? ⟨pb, 3, none⟩ = some (.int .u8 ((pkOf rest).pad : Nat)) from fun w' h => ⟨h.cell 0, h.cell 1, h.cell 2, h.cell 3⟩)
          have ROW := Lib.hid (HP.out.pks.row.only O2.out (by simp))
          have NB := Lib.hid (show (Value.slice A4 done.length c4).ownBlock ≠ some pb from fun h => by have := (HP.out.pks.row.lt pb h).2; have := HPB.out; omega)
          have SZ2 := Lib.hid (show w.heap.size ≤ w2.heap.size from Nat.le_trans HP.out.pure.size O2.out.size)
          have LX := Lib.hid (show (List.zipWith Pkt.lst done vs).length ≤ 100000 from by rw [HP.out.pks.zip]; have := HLN.out; have := HLL.out; omega)
          have x1 : (0 : Int) ≤ (sz : Int) := by omega
          have x2 : (sz : Int) ≤ (rest.length : Int) := by omega
          have x3 : (rest.length : Int) ≤ (c0 : Int) := by omega
          by_cases hcap : c0 = sz
          · have hL : rest.length = sz := by omega
            have HSL2 := Lib.hid hszl
            have HSL3 := Lib.hid hL
            subst hcap
            rw [hL]
            clear x1 x2 x3 hc0 hszl
            go_region_held3 (fun w' => w'.cell? ⟨pb, 0, none⟩ = some (.int .u8 ((pkOf rest).count : Nat)) ∧ w'.cell? ⟨pb, 1, none⟩ = some (.int .u8 ((pkOf rest).kind : Nat)) ∧ w'.cell? ⟨pb, 2, none⟩ = some u ∧ w'.cell? ⟨pb, 3, none⟩ = some (.int .u8 ((pkOf rest).pad : Nat))) (first | exact KF.out _ HI2.out | exact KF.out _ (HI2.out.alloc _) | exact KF.out _ ((HI2.out.alloc _).only ((Only.refl _ _).trans hp2 (fun _ _ e => e)) NB.out) | exact KF.out _ (HI2.out.only hp2 NB.out) | exact KF.out _ (Is.only (w := w2.drew) HI2.out hp2 NB.out)) (first | (refine step_append_pk _ (by rfl) (.tmp 28) (.tmp 30) (by rfl) w.heap.size _ (List.zipWith Pkt.lst done vs) (pkOf rest) u ⟨_, _, _, HSL.out.choose_spec.choose_spec⟩ (by rfl) (ROW.out.only (Only.refl (fun _ => False) _).drew (by simp)) (by rfl) LX.out SZ2.out ?_; intro v2 w3 hr3 hp2))
            go_wp2
            refine ⟨⟨rest.drop c0, done ++ [pkOf rest], vs ++ [u], ?_, spl_next (by decide) HP.out O1.out HU.out O12.out hr3 hp2 hsz4 HSL2.out HEQ.out⟩, ?_⟩
            · exact src_nil rfl (by omega) (by rw [List.drop_eq_nil_iff]; have := HSL3.out; omega)
            · simp
              have := HSL3.out
              omega
          · go_region_held3 (fun w' => w'.cell? ⟨pb, 0, none⟩ = some (.int .u8 ((pkOf rest).count : Nat)) ∧ w'.cell? ⟨pb, 1, none⟩ = some (.int .u8 ((pkOf rest).kind : Nat)) ∧ w'.cell? ⟨pb, 2, none⟩ = some u ∧ w'.cell? ⟨pb, 3, none⟩ = some (.int .u8 ((pkOf rest).pad : Nat))) (first | exact KF.out _ HI2.out | exact KF.out _ (HI2.out.alloc _) | exact KF.out _ ((HI2.out.alloc _).only ((Only.refl _ _).trans hp2 (fun _ _ e => e)) NB.out) | exact KF.out _ (HI2.out.only hp2 NB.out) | exact KF.out _ (Is.only (w := w2.drew) HI2.out hp2 NB.out)) (first | (refine step_append_pk _ (by rfl) (.tmp 28) (.tmp 30) (by rfl) w.heap.size _ (List.zipWith Pkt.lst done vs) (pkOf rest) u ⟨_, _, _, HSL.out.choose_spec.choose_spec⟩ (by rfl) (ROW.out.only (Only.refl (fun _ => False) _).drew (by simp)) (by rfl) LX.out SZ2.out ?_; intro v2 w3 hr3 hp2))
            go_wp2
            refine ⟨⟨rest.drop sz, done ++ [pkOf rest], vs ++ [u], ?_, spl_next (by decide) HP.out O1.out HU.out O12.out hr3 hp2 hsz4 hszl HEQ.out⟩, ?_⟩
            · exact src_drop sz HRW.out.cells_at hszl rfl (by omega)
            · simp
              omega
      · have HBAD := Lib.hid (one_bad (w := wr) HR.out HP.out.bytes (by omega) he)
        have HEQ := Lib.hid (show (spl true bs).1 = oneErr rest lead from by rw [HP.out.eq, HLD.out, spl_bad HEND.out he])
        have ze : (((oneErr rest lead : Nat) : Int) != 0) = true := by simp; omega
        have HNE := Lib.hid he
        generalize oneErr rest lead = er at *
        clear hend he hlen hc4 hl
        rcases hways with rfl | ⟨rfl, z1, z2⟩
        all_goals
          go_wp2_with (first
            | (go_at_call 53; refine HBAD.out.mono ?_; rintro e w1 ⟨rfl, ho1⟩; have O1 := Lib.hid ho1; clear ho1)
            | (refine wpList_store_is rfl 36 _ _ rfl w1.heap.size zeroP rfl rfl 36 zeroP (Is.made _ _ zeroP) Try.sizeRc rfl zeroP_one ?_; intro w2 hi2 ho2))
          go_ret2
          exact ⟨HP.out.pure.trans (O1.out.trans (only_made ho2) (fun _ _ e => e)) (fun _ _ e => e), .inl ⟨by rw [HEQ.out]; exact HNE.out, by rw [HEQ.out]; rfl⟩⟩
end Go.Proofs.Ytdhkcffjhcoloaa
