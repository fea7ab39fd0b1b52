/- Bytes as a string (as RtpJ has it). Conditions: as each says. -/
import Derived.Test.YtefcimkopgcagaaBase
import Derived.Laws.BytesArg
import Derived.Laws.BytesString
set_option linter.unusedVariables false
namespace Go.Proofs.Ytefcimkopgcagaa
open Go.RowKit

set_option maxRecDepth 100000 in
theorem conv_src {w : World} {A : Option Addr} {n c : Nat} {bs : List Nat} (h : Src w (.slice A n c) bs) (hn : bs.length = n) : (convert 35 9 (.slice A n c)).run Try.prog w = .ok (.string (strOfNums (nats bs))) w := by
  rcases Nat.eq_zero_or_pos n with h0 | h0
  · subst h0
    obtain rfl : bs = [] := List.eq_nil_of_length_eq_zero hn
    rcases A with _ | ⟨b, o, s⟩
    · exact run_convert_bytes_nil (P := Try.prog) w 35 5 Try.underlying35 Try.underlying5 0 c 9 Try.underlying9
    · rw [run_convert_bytes_string (P := Try.prog) w 35 9 5 (some ⟨b, o, s⟩) 0 c Try.underlying35 Try.underlying5 Try.underlying9]
      rw [run_bytesToString w _ 0 c [] (by simpa using run_loadCells_list (P := Try.prog) w ⟨b, o, s⟩ [] (fun j v hj => by simp at hj))]
      rfl
  · obtain ⟨g, o, c', e, hc⟩ := h.at_ (by omega)
    injection e with e1 e2 e3
    subst e1
    exact run_convert_bytes_arg (P := Try.prog) w 35 5 Try.underlying35 Try.underlying5 g o n c (nats bs) (by rw [nats_length]; exact hn) (fun i hi => by
      rw [hc i (by omega)]
      simp [nats, List.getD, List.getElem?_eq_getElem (show i < bs.length by omega)]) 9 Try.underlying9

theorem u8_inj : ∀ (xs bs : List Nat), (∀ x ∈ xs, x < 256) → (∀ x ∈ bs, x < 256) → xs.map (fun (x : Nat) => UInt8.ofNat ((x : Int)).toNat) = bs.map (fun (x : Nat) => UInt8.ofNat ((x : Int)).toNat) → xs = bs
  | [], [], _, _, _ => rfl
  | [], _ :: _, _, _, h => by simp at h
  | _ :: _, [], _, _, h => by simp at h
  | a :: xs, b :: bs, ha, hb, h => by
    simp only [List.map_cons, List.cons.injEq] at h
    have h1 := congrArg UInt8.toNat h.1
    have ha0 := ha a (by simp)
    have hb0 := hb b (by simp)
    simp only [UInt8.toNat_ofNat', Int.toNat_natCast] at h1
    have : a = b := by omega
    rw [this, u8_inj xs bs (fun x hx => ha x (by simp [hx])) (fun x hx => hb x (by simp [hx])) h.2]
theorem str_eq (xs bs : List Nat) (ha : ∀ x ∈ xs, x < 256) (hb : ∀ x ∈ bs, x < 256) : ((strOfNums (nats xs)).toList == (strOfNums (nats bs)).toList) = decide (xs = bs) := by
  rw [ByteArray.toList_eq, ByteArray.toList_eq, strOfNums_data, strOfNums_data]
  by_cases h : xs = bs
  · subst h
    simp
  · have hne : ¬ (nats xs).map (fun n => UInt8.ofNat n.toNat) = (nats bs).map (fun n => UInt8.ofNat n.toNat) := by
      intro e
      apply h
      apply u8_inj xs bs ha hb
      simpa [nats, List.map_map, Function.comp_def] using e
    rw [decide_eq_false h]
    exact beq_false_of_ne hne

end Go.Proofs.Ytefcimkopgcagaa
