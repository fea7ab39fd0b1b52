/- roster: DeleteFunc over the members. Conditions: as each says. -/
import Derived.Test.YtglgmhdajmncjaaRyE
set_option linter.unusedVariables false
set_option linter.unusedSimpArgs false
namespace Go.Proofs.Ytglgmhdajmncjaa
open Go Go.RowKit

theorem Dm.box {B g N c i j : Nat} {p : Mb → Bool} {l : List Mb} {w wr wx : World} (h : Dm B g N c p l w i j wr) (hg : g < w.heap.size) (ho : Only (fun _ => False) wr wx) : Dm B g N c p l w i j wx := by
  obtain ⟨cur, h1, h2, h3⟩ := h.cur
  exact ⟨h.lt, h.le, ⟨cur, h1, OwnS.only h2 ho (by simp), h3⟩, h.only.trans ho (fun _ _ e => e.elim)⟩
set_option maxRecDepth 20000 in
set_option maxHeartbeats 4000000 in
theorem delm_is (m : Mb) (ib B : Nat) (v : Value) (l : List Mb) (w : World) (hv : OwnS w B 58 4 v (mbRows l)) (hl : l.length ≤ 1000000) (hI : Is w ib 58 (mbCells m).toArray) (hib : v.ownBlock ≠ some ib) :
    Calls Try.prog 56 #[v, delF ib] w (StruckM B v (l.filter fun x => !mbEq x m) w) := by
  have HI := Lib.hid (indexm_is m ib B v l w hv hl hI)
  obtain ⟨A, c, rfl, hlc⟩ := hv.slice
  rw [mbRows_length] at hlc hv HI hib ⊢
  obtain ⟨N, hN⟩ : ∃ N, l.length = N := ⟨_, rfl⟩
  have HN := Lib.hid hN
  have HV := Lib.hid hv
  have HII := Lib.hid hI
  rw [hN] at hl hlc HI HV ⊢
  rw [hN] at hib
  clear hN hv hI
  go_enter Try.func56, Try.ntmps56
  go_wp2_with fail
  refine HI.out.mono ?_
  rintro e w1 ⟨⟨z, rfl, hz⟩, ho⟩
  have HO1 := Lib.hid ho
  clear ho
  rcases hz with ⟨rfl, hn⟩ | ⟨k, x0, rfl, hk, hx0, hno⟩
  · have HD := Lib.hid (show (l.filter fun x => !mbEq x m) = l from List.filter_eq_self.2 (fun x hx => by rw [show mbEq x m = false from hn x hx]; rfl))
    clear hn HI
    go_wp2
    go_ret
    exact ⟨_, rfl, by rw [HD.out]; exact OwnS.only HV.out HO1.out (by simp), HO1.out.mono (fun _ _ e => e.elim), rfl⟩
  · have hkN : k < N := by rw [← HN.out]; exact (List.getElem?_eq_some_iff.1 hk).1
    have hkI : ¬ (k : Int) = -1 := by omega
    obtain ⟨g, c', hgc, -⟩ := HV.out.place (by rw [mbRows_length, HN.out]; omega)
    obtain ⟨hA, -, -⟩ := Value.slice.inj hgc
    subst hA
    clear hgc
    have HS := Lib.hid (Dm.start (p := fun x => !mbEq x m) (OwnS.only HV.out HO1.out (by simp)) HO1.out HN.out hk (by rw [show mbEq x0 m = true from hx0]; rfl) (fun y hy => by rw [show mbEq y m = false from hno y hy]; rfl))
    have hne : ib ≠ g := fun e => hib (by rw [e]; rfl)
    have hgl := Lib.hid (HV.out.lt g rfl).2
    have HM := Lib.hid (fun (wr : World) (ho : Only (fun k => k = g) w wr) (x : Mb) (wx : World) (hx : Only (fun _ => False) wr wx) => leave1_is m x ib wx ((HII.out.only ho hne).only hx (by simp)))
    clear hk hno HI HV HII hib hne hx0
    have hkb : ((k : Int) == -1) = false := by
      simp
    go_wp2
    clear hkb
    go_loopw [5, 6] (fun s5 s6 wr => ∃ i j : Nat, s5 = .int .i64 (i : Int) ∧ s6 = .int .i64 (j : Int) ∧ Hid (Dm B g N c (fun x => !mbEq x m) l w i j wr)) (fun _ s6 _ => N - (intOf s6).toNat)
    case atStart => exact ⟨k, k + 1, rfl, by go_num, HS⟩
    case round =>
      obtain ⟨i, j, rfl, rfl, hD⟩ := hrel
      have hij := hD.out.lt
      have hjN := hD.out.le
      by_cases hlt : j < N
      · obtain ⟨cur, h1, h2, h3, h4⟩ := hD.out.cur
        have hjc : j < cur.length := by omega
        have hic : i < cur.length := by omega
        have hx := List.getElem?_eq_getElem hjc
        have HH := Lib.hid (dm_hit (p := fun x => !mbEq x m) hij h3 h4 hx)
        have HX := Lib.hid (dm_miss (p := fun x => !mbEq x m) h3 h4 hx)
        have HRG := Lib.hid (h2.range (g := g) rfl (mbRows_get hx))
        have HO := Lib.hid hD.out.only
        have HL := Lib.hid h1
        have H2 := Lib.hid h2
        generalize cur[j] = x at *
        obtain ⟨xi, xo, xa, xm⟩ := x
        have hjI : (j : Int) < (N : Int) := by omega
        have hiI : (i : Int) < (N : Int) := by omega
        clear h2 h3 h4 h1 hx
        go_upto_region 8 with (refine wpList_load_mid rfl 58 _ rfl g (j * 4) rfl [.int .i64 xi, .int .u32 (xo : Int), .int .u32 (xa : Int), .bool xm] _ HRG.out Try.underlying58 rfl Try.sizeMb ?_)
        have hM := Is.made wr 58 #[.int .i64 xi, .int .u32 (xo : Int), .int .u32 (xa : Int), .bool xm]
        have hO3 := (Only.refl (fun _ => False) wr).alloc (.cells #[.int .i64 xi, .int .u32 (xo : Int), .int .u32 (xa : Int), .bool xm] 58)
        have HB := Lib.hid hM
        have HO3 := Lib.hid hO3
        generalize wr.alloc (.cells #[.int .i64 xi, .int .u32 (xo : Int), .int .u32 (xa : Int), .bool xm] 58) = w3 at *
        clear hM hO3
        go_wp2_with (refine wpList_load_row (o := ⟨some 27, _, _, _, _, _⟩) rfl _ _ rfl wr.heap.size rfl _ _ _ _ HB.out Try.underlying58 rfl Try.sizeMb ?_)
        refine (HM.out _ HO.out ⟨xi, xo, xa, xm⟩ w3 HO3.out).mono ?_
        rintro e w4 ⟨rfl, ho⟩
        have HO4 := Lib.hid (HO3.out.trans ho (fun _ _ e => e))
        have HB4 := Lib.hid (HB.out.only ho (by simp))
        clear ho HB HO3
        cases hx : mbEq ⟨xi, xo, xa, xm⟩ m with
        | true =>
          have hd := HX.out (by rw [hx]; rfl)
          have HD := Lib.hid (Dm.box (show Dm B g N c (fun x => !mbEq x m) l w i (j + 1) wr from ⟨by omega, by omega, ⟨cur, HL.out, H2.out, hd⟩, HO.out⟩) hgl.out HO4.out)
          clear hd hx HX HH hD HRG
          go_wp2
          exact ⟨⟨i, j + 1, rfl, by go_num, HD⟩, by simp [intOf]; omega⟩
        | false =>
          have hd := HH.out (by rw [hx]; rfl)
          have H4 := Lib.hid (OwnS.only H2.out HO4.out (by simp))
          have hth := Lib.hid (H4.out.there (g := g) (i := i) rfl (by rw [mbRows_length]; exact hic))
          have hwr := H4.out.write (g := g) (i := i) (cs := [.int .i64 xi, .int .u32 (xo : Int), .int .u32 (xa : Int), .bool xm]) rfl (by rw [mbRows_length]; exact hic) rfl
          rw [show ([.int .i64 xi, .int .u32 (xo : Int), .int .u32 (xa : Int), .bool xm] : List Value) = mbCells ⟨xi, xo, xa, xm⟩ from rfl, mbRows_set] at hwr
          have HD := Lib.hid (show Dm B g N c (fun x => !mbEq x m) l w (i + 1) (j + 1) (w4.setCells g (i * 4) (mbCells ⟨xi, xo, xa, xm⟩)) from ⟨by omega, by omega, ⟨cur.set i ⟨xi, xo, xa, xm⟩, by rw [List.length_set]; exact HL.out, hwr.1, hd⟩, (HO.out.trans HO4.out (fun _ _ e => e.elim)).trans hwr.2 (fun _ _ e => e)⟩)
          clear hd hx HX HH hD HRG hwr
          go_wp2_with (first
            | (refine wpList_load_row (o := ⟨some 32, _, _, _, _, _⟩) rfl _ _ rfl wr.heap.size rfl _ _ _ _ HB4.out Try.underlying58 rfl Try.sizeMb ?_)
            | (refine wpList_store_midw rfl 58 _ _ rfl g (i * 4) #[.int .i64 xi, .int .u32 (xo : Int), .int .u32 (xa : Int), .bool xm] rfl rfl hth.out Try.sizeMb (by simp [Value.oneCell']) ?_; intro w5 hw5; replace hw5 := Lib.hid hw5))
          exact ⟨⟨i + 1, j + 1, by go_num, by go_num, Lib.hid (by rw [hw5.out]; exact HD.out)⟩, by simp [intOf]; omega⟩
      · obtain rfl : j = N := by omega
        obtain ⟨hcl, h1, h2⟩ := Dm.fin hD.out HN.out hlc
        have H1 := Lib.hid h1
        have H2 := Lib.hid h2
        have hb1 : ¬ c = i := by omega
        have hb2 : i ≤ c := by omega
        clear h1 h2 hD HS HM
        go_wp2
        go_ret
        exact ⟨_, rfl, H1.out, H2.out.mono (fun k _ e => by rw [e]; rfl), rfl⟩
end Go.Proofs.Ytglgmhdajmncjaa
