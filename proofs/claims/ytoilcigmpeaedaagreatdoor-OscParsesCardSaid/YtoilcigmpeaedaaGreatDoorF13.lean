/-
  UtfH
-/
import Derived.Laws.IdiomStrings
import Derived.Test.YtoilcigmpeaedaaGreatDoorF12
namespace Go.Proofs.YtoilcigmpeaedaaGreatDoor.Utf
open Go.RowKit

theorem run_str {P : Program} (w : World) (src dst e : TypeId) (A : Option Addr) (c : Nat) (l : List UInt8) (hs : P.underlying src = some (.slice e)) (he : P.underlying e = some (.int .u8)) (hd : P.underlying dst = some .string)
    (h : Rd w A (cB l)) : (convert src dst (.slice A l.length c)).run P w = .ok (.string ⟨l.toArray⟩) w := by
  cases A with
  | none =>
    have hl : l = [] := by
      cases l with
      | nil => rfl
      | cons x r => obtain ⟨_, h, _⟩ := h 0 _ rfl; cases h
    subst hl
    rw [List.length_nil, run_convert_bytes_string w src dst e none 0 c hs he hd]
    simp [Conv.bytesToString, Sem.run_pure]
    rfl
  | some a =>
    refine run_convert_bytes_back w src dst e a c l hs he hd fun j hj => ?_
    obtain ⟨ad, e, _, hc⟩ := h j _ (cB_at l j l[j] (by simp [hj]))
    cases e
    exact hc

theorem textL_take (zs : List Int) (k : Nat) (z : Int) (h : zs[k]? = some z) : textL (zs.take (k + 1)) = textL (zs.take k) ++ encL z := by
  rw [List.take_add_one, h]; exact textL_snoc _ _
set_option maxRecDepth 100000 in
set_option maxHeartbeats 1000000 in
theorem text_any (A : Option Addr) (c : Nat) (zs : List Int) (w : World) (h : Rd w A (cI zs)) (hm : Mk w) (hl : zs.length ≤ 100000) :
    Calls Tryz.prog 79 #[.slice A zs.length c] w fun e w' => e = .returned (.string ⟨(textL zs).toArray⟩) ∧ Below w.heap.size w w' := by
  have HM := Lib.hid hm; clear hm
  have H := Lib.hid h; clear h
  go_enter Tryz.func79, Tryz.ntmps79
  go_wp2
  go_loopw [3, 8] (fun v i wr => ∃ k : Nat, k ≤ zs.length ∧ i = .int .i64 k ∧ Hid (wr.ownsRow w.heap.size 5 1 v (textL (zs.take k)).length (cB (textL (zs.take k)))) ∧ Below w.heap.size w wr) (fun _ i _ => zs.length - (intOf i).toNat)
  case atStart => exact ⟨0, Nat.zero_le _, rfl, World.ownsRow_nil _ _ _ _, Below.refl _ _⟩
  case round =>
    obtain ⟨k, hk, rfl, hown, hb⟩ := hrel
    by_cases hlt : k < zs.length
    · obtain ⟨z, hz⟩ : ∃ z, zs[k]? = some z := ⟨zs[k], by simp [hlt]⟩
      obtain ⟨ad, rfl, hblk, hc⟩ := ((H.out).below hb) k _ (cI_at zs k z hz)
      have HZ := Lib.hid hz; clear hz
      have hlen : (textL (zs.take k)).length ≤ 400000 := by
        have := textL_len (zs.take k)
        rw [List.length_take] at this
        omega
      go_wp2_with fail
      refine (add_any _ _ _ z _ w.heap.size hown.out ((HM.out).keep hb) HM.out.1 hb.size (by omega)).mono ?_
      rintro e w1 ⟨v1, rfl, hown1, hb1⟩
      go_wp2
      go_roundw
      case rel => exact ⟨k + 1, by omega, by go_num, by show World.ownsRow _ _ _ _ _ _ _; rw [textL_take zs k z HZ.out, List.length_append]; exact hown1, hb.trans hb1⟩
      case measure => simp [intOf]; omega
    · have ht : zs.take k = zs := List.take_of_length_le (by omega)
      rw [ht] at hown
      clear ht
      obtain ⟨A1, cp, hv1, _, hr1⟩ := own_slice hown.out
      rw [hv1]
      have hcv := run_str (P := Tryz.prog) wr 38 9 5 A1 cp (textL zs) Tryz.underlying38 Tryz.underlying5 Tryz.underlying9 hr1
      clear hr1 hown hv1
      go_wp2
      go_ret
      exact ⟨rfl, hb⟩
end Go.Proofs.YtoilcigmpeaedaaGreatDoor.Utf
