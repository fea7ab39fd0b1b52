/- feedback.Put of any message. Conditions: as each says. -/
import Derived.Test.YtoibllmijkggnaaFcI
set_option linter.unusedVariables false
namespace Go.Proofs.Ytoibllmijkggnaa
open Go.RowKit

def pktC (ct kd : Nat) (v : Value) : Array Value := #[.int .u8 (ct : Nat), .int .u8 (kd : Nat), v, .int .u8 0]
def putm6_A : List (List Nat) := ([] :: [0] :: [] :: [2] :: [] :: [4] :: [1, 3, 5, 0, 2, 4] :: [6, 5, 0, 1, 2, 3, 4] :: (7 :: 0 :: 1 :: 2 :: 3 :: 4 :: 5 :: 6 :: []) :: [])
def putm6_kill : List (List Nat) := ([] :: [] :: [] :: [] :: [] :: [] :: [] :: [5, 6] :: [] :: [])
def putm6_uses : List (List Nat) := ([] :: [] :: [] :: [] :: [] :: [] :: [5] :: [6] :: [] :: [])
noncomputable def putm6_code : Code := ((Try.f12.body.bind (codeRegion 6)).getD .skip)
set_option maxRecDepth 100000 in
set_option maxHeartbeats 4000000 in
theorem putm6_in (sb rb k B s ct kd : Nat) (d bs : List Nat) (v : Value) (hc0 : (srtV s)[0]? = some (.int .u8 (kd : Nat))) (hc1 : (srtV s)[1]? = some (.int .u8 (ct : Nat))) (hd : d.length ≤ 10000000) (u0 u1 u3 u5 u7 u8 u9 u10 u11 u12 u13 u14 u15 u16 u17 u18 u19 u20 u21 u22 u23 u24 u25 u26 u27 u28 u29 u30 u31 u32 u33 u34 u35 u36 u37 u38 u39 u40 u41 u42 : Value) (w0 : World) (hS : Is w0 sb 93 (srtV s)) (hR : Is w0 rb 41 pktZ) (hW : Wr w0 k d bs v B) :
    Code.wp Try.prog putm6_code (fun e a w' => ∃ y36 y37 y38 y39 y40 y41 y42 : Value, a = ⟨(List.toArray (u0 :: u1 :: .pointer (some ⟨rb, 0, none⟩) :: .int .i64 0 :: .pointer (some ⟨sb, 0, none⟩) :: u5 :: .pointer (some ⟨k, 0, none⟩) :: u7 :: u8 :: u9 :: u10 :: u11 :: u12 :: u13 :: u14 :: u15 :: u16 :: u17 :: u18 :: u19 :: u20 :: u21 :: u22 :: u23 :: u24 :: u25 :: u26 :: u27 :: u28 :: u29 :: u30 :: u31 :: u32 :: u33 :: u34 :: u35 :: y36 :: y37 :: y38 :: y39 :: y40 :: y41 :: y42 :: [])), []⟩ ∧ e = .normal ∧ (∃ A c, Is w' rb 41 (pktC ct kd (.slice A bs.length c)) ∧ w'.ownsRow w0.heap.size 5 1 (.slice A bs.length c) bs.length (cellsOf bs) ∧ Only (fun j => j = rb) w0 w')) ⟨(List.toArray (u0 :: u1 :: .pointer (some ⟨rb, 0, none⟩) :: u3 :: .pointer (some ⟨sb, 0, none⟩) :: u5 :: .pointer (some ⟨k, 0, none⟩) :: u7 :: u8 :: u9 :: u10 :: u11 :: u12 :: u13 :: u14 :: u15 :: u16 :: u17 :: u18 :: u19 :: u20 :: u21 :: u22 :: u23 :: u24 :: u25 :: u26 :: u27 :: u28 :: u29 :: u30 :: u31 :: u32 :: u33 :: u34 :: u35 :: u36 :: u37 :: u38 :: u39 :: u40 :: u41 :: u42 :: [])), []⟩ w0 := by
  conv => arg 2; whnf
  have HC0 := Lib.hid hc0
  have HC1 := Lib.hid hc1
  clear hc0 hc1
  refine wp_region_posts putm6_A [5, 7] [5, 6, 7] putm6_kill putm6_uses [7] [7] [8] []
      (some ?v0 :: some ?v1 :: some ?v2 :: some ?v3 :: some ?v4 :: none :: none :: none :: some ?v8 :: [])
      ?T (fun wx => Is wx sb 93 (srtV s) ∧ Is wx rb 41 pktZ ∧ Wr wx k d bs v B ∧ Only (fun _ => False) w0 wx) ?W ?E (by kernel_rfl) (by kernel_rfl) (by kernel_rfl) (fun x => ?hT) ?hF ?hini (Reg.all_ops ?runs) ?pres ?fin
  case W => exact fun j x w' => match j with | 5 => ∃ A c, x 5 = .slice A bs.length c ∧ w'.ownsRow w0.heap.size 5 1 (.slice A bs.length c) bs.length (cellsOf bs) | 6 => ∃ A c, x 6 = .agg (pktC ct kd (.slice A bs.length c)) ∧ w'.ownsRow w0.heap.size 5 1 (.slice A bs.length c) bs.length (cellsOf bs) | 7 => ∃ A c, Is w' rb 41 (pktC ct kd (.slice A bs.length c)) ∧ w'.ownsRow w0.heap.size 5 1 (.slice A bs.length c) bs.length (cellsOf bs) ∧ Only (fun j => j = rb) w0 w' | _ => True
  case E => exact fun i w' w'' => match i with | 5 => Only (fun _ => False) w' w'' | _ => True
  case hT =>
    simp only [Reg.fillV, Act.put, List.setIfInBounds_toArray, List.set_cons_zero, List.set_cons_succ]
    rfl
  case runs =>
    refine And.intro ?_ ?_
    · refine Reg.ob_pure (fun _ => rfl) rfl rfl rfl rfl (fun x w1 hF => ?_)
      obtain ⟨h1, -, -, -⟩ := hF
      have s0 := (h1.cell 0).trans HC0.out
      have s1 := (h1.cell 1).trans HC1.out
      go_simp
      with_reducible rfl
    refine And.intro ?_ ?_
    · refine Reg.ob_pure (fun _ => rfl) rfl rfl rfl rfl (fun x w1 hF => ?_)
      obtain ⟨h1, -, -, -⟩ := hF
      have s0 := (h1.cell 0).trans HC0.out
      have s1 := (h1.cell 1).trans HC1.out
      go_simp
      with_reducible rfl
    refine And.intro ?_ ?_
    · refine Reg.ob_pure (fun _ => rfl) rfl rfl rfl rfl (fun x w1 hF => ?_)
      obtain ⟨h1, -, -, -⟩ := hF
      have s0 := (h1.cell 0).trans HC0.out
      have s1 := (h1.cell 1).trans HC1.out
      go_simp
      with_reducible rfl
    refine And.intro ?_ ?_
    · refine Reg.ob_pure (fun _ => rfl) rfl rfl rfl rfl (fun x w1 hF => ?_)
      obtain ⟨h1, -, -, -⟩ := hF
      have s0 := (h1.cell 0).trans HC0.out
      have s1 := (h1.cell 1).trans HC1.out
      go_simp
      with_reducible rfl
    refine And.intro ?_ ?_
    · refine Reg.ob_pure (fun _ => rfl) rfl rfl rfl rfl (fun x w1 hF => ?_)
      obtain ⟨h1, -, -, -⟩ := hF
      have s0 := (h1.cell 0).trans HC0.out
      have s1 := (h1.cell 1).trans HC1.out
      go_simp
      with_reducible rfl
    refine And.intro ?_ ?_
    · refine Reg.ob_some (fun _ => rfl) rfl (fun x w1 hF hU K hK => ?_)
      obtain ⟨h1, h2, h3, h4⟩ := hF rfl
      go_simp
      refine (out_is k B w0.heap.size d bs v w1 h3 h4.size (by omega)).mono ?_
      rintro e w5 ⟨u, rfl, hu, ho, -⟩
      rw [length_cellsOf] at hu
      obtain ⟨A, c, rfl, -⟩ := own_slice hu
      exact hK _ w5 (fun _ _ _ => ⟨h1.only ho (by simp), h2.only ho (by simp), fw_wr h3 ho, only_more h4 ho⟩) ho ⟨A, c, rfl, hu⟩
    refine And.intro ?_ ?_
    · refine Reg.ob_some (fun _ => rfl) rfl (fun x w1 hF hU K hK => ?_)
      obtain ⟨⟨A, c, h5, hu⟩, -⟩ := hU
      have h5 : x 5 = .slice A bs.length c := h5
      revert hK
      simp only [Nat.reduceAdd, h5]
      intro hK
      go_simp
      exact hK _ _ (fun h => by cases h) rfl ⟨A, c, rfl, hu⟩
    refine And.intro ?_ ?_
    · refine Reg.ob_some (fun _ => rfl) rfl (fun x w1 hF hU K hK => ?_)
      obtain ⟨h1, h2, h3, h4⟩ := hF rfl
      obtain ⟨⟨A, c, h6, hu⟩, -⟩ := hU
      have h6 : x 6 = .agg (pktC ct kd (.slice A bs.length c)) := h6
      refine wp_store_row 41 _ _ rfl rb (pktC ct kd (.slice A bs.length c)) rfl (by simpa [Act.eval] using h6) 41 pktZ h2 Try.sizeRt rfl (by simp [pktC, Value.oneCell']) ?_
      have ho : Only (fun q => q = rb) w1 (w1.setRow rb (pktC ct kd (.slice A bs.length c))) := Only.setRow (S := fun q => q = rb) (Only.refl _ w1) (fun _ => rfl) _
      exact hK undef _ (fun _ h _ => by cases h) trivial ⟨A, c, h2.setRow _, owned_only hu ho (fun q hq e => owned_off hu h2 (by decide) (by rw [hq, e])), (h4.mono (fun _ _ e => e.elim)).trans ho (fun _ _ e => e)⟩
    refine And.intro ?_ ?_
    · refine Reg.ob_bare (fun _ => rfl) rfl rfl rfl (fun x w1 => ?_)
      go_simp
      with_reducible rfl
    exact trivial
  case hF =>
    exact ⟨hS.only (only_drewN _ 1) (by simp), hR.only (only_drewN _ 1) (by simp), fw_wr hW (only_drewN _ 1), only_drewN _ 1⟩
  case hini =>
    exact trivial
  case pres =>
    intro i hi j hj hc x wx wy hF hE hW
    simp only [List.mem_cons, List.mem_nil_iff, or_false] at hi hj
    rcases hi with rfl | rfl <;> rcases hj with rfl | rfl | rfl
    all_goals (exfalso; revert hc; decide)
  case fin =>
    rintro x w9 hF hU
    obtain ⟨hQ, -⟩ := hU
    repeat apply Exists.intro
    exact ⟨rfl, rfl, hQ⟩

set_option maxRecDepth 100000 in
set_option maxHeartbeats 4000000 in
theorem putm6 (sb rb k B s ct kd : Nat) (d bs : List Nat) (v : Value) (hc0 : (srtV s)[0]? = some (.int .u8 (kd : Nat))) (hc1 : (srtV s)[1]? = some (.int .u8 (ct : Nat))) (hd : d.length ≤ 10000000) (u0 u1 u3 u5 u7 u8 u9 u10 u11 u12 u13 u14 u15 u16 u17 u18 u19 u20 u21 u22 u23 u24 u25 u26 u27 u28 u29 u30 u31 u32 u33 u34 u35 u36 u37 u38 u39 u40 u41 u42 : Value) (Q : Exit → Act → World → Prop) (w0 : World) (hS : Is w0 sb 93 (srtV s)) (hR : Is w0 rb 41 pktZ) (hW : Wr w0 k d bs v B)
    (hend : ∀ (y36 y37 y38 y39 y40 y41 y42 : Value) (w' : World), (∃ A c, Is w' rb 41 (pktC ct kd (.slice A bs.length c)) ∧ w'.ownsRow w0.heap.size 5 1 (.slice A bs.length c) bs.length (cellsOf bs) ∧ Only (fun j => j = rb) w0 w') → Q .normal ⟨(List.toArray (u0 :: u1 :: .pointer (some ⟨rb, 0, none⟩) :: .int .i64 0 :: .pointer (some ⟨sb, 0, none⟩) :: u5 :: .pointer (some ⟨k, 0, none⟩) :: u7 :: u8 :: u9 :: u10 :: u11 :: u12 :: u13 :: u14 :: u15 :: u16 :: u17 :: u18 :: u19 :: u20 :: u21 :: u22 :: u23 :: u24 :: u25 :: u26 :: u27 :: u28 :: u29 :: u30 :: u31 :: u32 :: u33 :: u34 :: u35 :: y36 :: y37 :: y38 :: y39 :: y40 :: y41 :: y42 :: [])), []⟩ w') :
    Code.wp Try.prog putm6_code Q ⟨(List.toArray (u0 :: u1 :: .pointer (some ⟨rb, 0, none⟩) :: u3 :: .pointer (some ⟨sb, 0, none⟩) :: u5 :: .pointer (some ⟨k, 0, none⟩) :: u7 :: u8 :: u9 :: u10 :: u11 :: u12 :: u13 :: u14 :: u15 :: u16 :: u17 :: u18 :: u19 :: u20 :: u21 :: u22 :: u23 :: u24 :: u25 :: u26 :: u27 :: u28 :: u29 :: u30 :: u31 :: u32 :: u33 :: u34 :: u35 :: u36 :: u37 :: u38 :: u39 :: u40 :: u41 :: u42 :: [])), []⟩ w0 := by
  refine wp_mono (putm6_in sb rb k B s ct kd d bs v hc0 hc1 hd _ _ _ _ _ _ _ _ _ _ _ _ _ _ _ _ _ _ _ _ _ _ _ _ _ _ _ _ _ _ _ _ _ _ _ _ _ _ _ _ w0 hS hR hW) ?_
  rintro e a w' h
  obtain ⟨y36, h⟩ := h
  obtain ⟨y37, h⟩ := h
  obtain ⟨y38, h⟩ := h
  obtain ⟨y39, h⟩ := h
  obtain ⟨y40, h⟩ := h
  obtain ⟨y41, h⟩ := h
  obtain ⟨y42, h⟩ := h
  obtain ⟨h, rfl, hq⟩ := h
  subst h
  exact hend y36 y37 y38 y39 y40 y41 y42 w' hq
end Go.Proofs.Ytoibllmijkggnaa
