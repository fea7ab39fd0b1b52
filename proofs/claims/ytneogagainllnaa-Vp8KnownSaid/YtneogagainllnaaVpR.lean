/- The chapter's examples, as the statements' own function works has them: it answers true, and writes nothing that was there. Conditions: none. -/
import Derived.Test.YtneogagainllnaaVpQ
set_option linter.unusedVariables false
namespace Go.Proofs.Ytneogagainllnaa
open Go.RowKit

def exA : Dv := ⟨false, true, 0, false, false, 0, false, 0, false, 0, false, false, 0⟩
theorem gotA : Got [16, 0] = (exA, (8 * 1, 0)) := by kernel_rfl
def exB : Dv := ⟨false, true, 0, true, false, 5, false, 0, false, 0, false, false, 0⟩
theorem gotB : Got [144, 128, 5, 1] = (exB, (8 * 3, 0)) := by kernel_rfl
def exC : Dv := ⟨true, true, 0, true, true, 291, true, 7, true, 1, true, true, 0⟩
theorem gotC : Got [176, 240, 129, 35, 7, 96] = (exC, (8 * 6, 0)) := by kernel_rfl
theorem gotD : (Got [128]).2.2 = 10 := by kernel_rfl
theorem gotE : (Got [144, 128, 133]).2.2 = 10 := by kernel_rfl
theorem only_stored {w w1 : World} {o : Obj} (h : Only (fun k => k = w.heap.size) (w.alloc o) w1) : Only (fun _ => False) w w1 :=
  ((Only.refl _ w).alloc o).trans h (fun i hi e => by omega)

set_option maxRecDepth 100000 in
set_option maxHeartbeats 2000000 in
theorem works_any (w : World) : Calls Try.prog 7 #[] w fun e w' => e = .returned (.bool true) ∧ Only (fun _ => False) w w' := by
  go_enter Try.func7, Try.ntmps7
  go_wp2_with fail
  refine (parse_lit w [16, 0] exA 1 [0] 1 rfl rfl (by decide) (by decide) gotA).mono ?_
  rintro e wA ⟨AA, cA, rfl, hsA, hoA⟩
  have SA := Lib.hid hsA
  have OA := Lib.hid hoA
  clear hsA hoA
  have VA := Lib.hid (Dv.one exA)
  have QA := Lib.hid (show exA.cells.size = 13 from rfl)
  go_upto_region 2 with (refine wpList_store_is rfl 31 _ _ rfl wA.heap.size exA.cells rfl rfl 31 Dv.zero.cells (Is.made wA _ Dv.zero.cells) Try.sizeDesc rfl VA.out ?_; intro uA hi hp)
  have IA := Lib.hid hi
  have PA := Lib.hid (only_stored hp)
  clear hi hp
  go_wp2_with fail
  refine (parse_lit uA [144, 128, 5, 1] exB 3 [1] 1 rfl rfl (by decide) (by decide) gotB).mono ?_
  rintro e wB ⟨AB, cB, rfl, hsB, hoB⟩
  have SB := Lib.hid hsB
  have OB := Lib.hid hoB
  clear hsB hoB
  have VB := Lib.hid (Dv.one exB)
  have QB := Lib.hid (show exB.cells.size = 13 from rfl)
  go_upto_region 3 with (refine wpList_store_is rfl 31 _ _ rfl wB.heap.size exB.cells rfl rfl 31 Dv.zero.cells (Is.made wB _ Dv.zero.cells) Try.sizeDesc rfl VB.out ?_; intro uB hi hp)
  have IB := Lib.hid hi
  have PB := Lib.hid (only_stored hp)
  clear hi hp
  go_wp2_with fail
  refine (parse_lit uB [176, 240, 129, 35, 7, 96] exC 6 [] 0 rfl rfl (by decide) (by decide) gotC).mono ?_
  rintro e wC ⟨AC, cC, rfl, hsC, hoC⟩
  have SC := Lib.hid hsC
  have OC := Lib.hid hoC
  clear hsC hoC
  have VC := Lib.hid (Dv.one exC)
  have QC := Lib.hid (show exC.cells.size = 13 from rfl)
  go_upto_region 4 with (refine wpList_store_is rfl 31 _ _ rfl wC.heap.size exC.cells rfl rfl 31 Dv.zero.cells (Is.made wC _ Dv.zero.cells) Try.sizeDesc rfl VC.out ?_; intro uC hi hp)
  have IC := Lib.hid hi
  have PC := Lib.hid (only_stored hp)
  clear hi hp
  go_wp2_with fail
  refine (parse_lit_bad uC [128] 10 (by decide) (by decide) gotD (by decide)).mono ?_
  rintro e wD ⟨rfl, hoD⟩
  have OD := Lib.hid hoD
  clear hoD
  go_upto_region 5 with (refine wpList_store_is rfl 31 _ _ rfl wD.heap.size Dv.zero.cells rfl rfl 31 Dv.zero.cells (Is.made wD _ Dv.zero.cells) Try.sizeDesc rfl (Dv.one _) ?_; intro uD hi hp)
  have PD := Lib.hid (only_stored hp)
  clear hi hp
  go_wp2_with fail
  refine (parse_lit_bad uD [144, 128, 133] 10 (by decide) (by decide) gotE (by decide)).mono ?_
  rintro e wE ⟨rfl, hoE⟩
  have OE := Lib.hid hoE
  clear hoE
  go_upto_region 6 with (refine wpList_store_is rfl 31 _ _ rfl wE.heap.size Dv.zero.cells rfl rfl 31 Dv.zero.cells (Is.made wE _ Dv.zero.cells) Try.sizeDesc rfl (Dv.one _) ?_; intro uE hi hp)
  have PE := Lib.hid (only_stored hp)
  clear hi hp
  have TE := Lib.hid (only_more (only_more OD.out PD.out) (only_more OE.out PE.out))
  have TC := Lib.hid (only_more (only_more OC.out PC.out) TE.out)
  have TB := Lib.hid (only_more (only_more OB.out PB.out) TC.out)
  have TA := Lib.hid (only_more (only_more OA.out PA.out) TB.out)
  have IA' := Lib.hid (IA.out.only TB.out (by simp))
  have IB' := Lib.hid (IB.out.only TC.out (by simp))
  have IC' := Lib.hid (IC.out.only TE.out (by simp))
  have KA := Lib.hid (key_is exA (.slice AA 1 cA) [0] uE (SA.out.only (only_more PA.out TB.out) (by simp)) (by decide))
  have KB := Lib.hid (fun u (h : Only (fun _ => False) uE u) => key_is exB (.slice AB 1 cB) [1] u (SB.out.only (only_more (only_more PB.out TC.out) h) (by simp)) (by decide))
  have EA := Lib.hid (same_self exA)
  have EB := Lib.hid (same_self exB)
  have EC := Lib.hid (same_self exC)
  clear OA PA OB PB OC PC OD PD OE PE IA IB IC SA SB SC VA VB VC QA QB QC
  go_wp2_with (refine wpList_load_want (o := ⟨some 65, _, _, _, _, _⟩) rfl _ _ rfl _ rfl _ _ _ IA'.out Try.underlying31 rfl Try.sizeDesc ?_)
  refine KA.out.mono ?_
  rintro e wK ⟨rfl, hok⟩
  have OK := Lib.hid hok
  clear hok
  go_wp2_with (refine wpList_load_want (o := ⟨some 71, _, _, _, _, _⟩) rfl _ _ rfl _ rfl _ _ _ (IB'.out.only OK.out (by simp)) Try.underlying31 rfl Try.sizeDesc ?_)
  refine (KB.out _ OK.out).mono ?_
  rintro e wL ⟨rfl, hol⟩
  have OL := Lib.hid (only_more OK.out hol)
  clear hol
  go_wp2_with (first
    | (refine wpList_load_want (o := ⟨some 90, _, _, _, _, _⟩) rfl _ _ rfl _ rfl _ _ _ (IA'.out.only OL.out (by simp)) Try.underlying31 rfl Try.sizeDesc ?_)
    | (refine wpList_load_want (o := ⟨some 94, _, _, _, _, _⟩) rfl _ _ rfl _ rfl _ _ _ (IB'.out.only OL.out (by simp)) Try.underlying31 rfl Try.sizeDesc ?_)
    | (refine wpList_load_want (o := ⟨some 99, _, _, _, _, _⟩) rfl _ _ rfl _ rfl _ _ _ (IC'.out.only OL.out (by simp)) Try.underlying31 rfl Try.sizeDesc ?_)
    | (refine wpList_eql_desc (o := ⟨some 92, _, _, _, _, _⟩) rfl _ _ rfl exA exA true EA.out rfl rfl ?_)
    | (refine wpList_eql_desc (o := ⟨some 96, _, _, _, _, _⟩) rfl _ _ rfl exB exB true EB.out rfl rfl ?_)
    | (refine wpList_eql_desc (o := ⟨some 101, _, _, _, _, _⟩) rfl _ _ rfl exC exC true EC.out rfl rfl ?_))
  go_ret
  exact ⟨rfl, only_more TA.out OL.out⟩
end Go.Proofs.Ytneogagainllnaa
