/-
  Contracts of the utf package's begins, prefix, Right.
-/
import Derived.Test.YtoilcigmpeaedaaGreatDoorUtfC
namespace Go.Proofs.YtoilcigmpeaedaaGreatDoor.Utf
open Go.RowKit

set_option maxRecDepth 100000 in
set_option maxHeartbeats 1000000 in
theorem begins_any (A : Option Addr) (c : Nat) (b : UInt8) (r : List UInt8) (w : World) (h : Rd w A (cB (b :: r))) (hm : Mk w) (hl : r.length + 1 ≤ fl b) (hc : r.length + 1 ≤ c) :
    Calls Tryz.prog 129 #[.slice A (r.length + 1) c] w fun e w' => e = .returned (.bool (begB (b :: r))) ∧ Below w.heap.size w w' := by
  obtain ⟨ad, rfl, hblk, hc0⟩ := h 0 (.int .u8 (b.toNat : Int)) rfl
  have hc0 : w.cell? ad = some (.int .u8 (b.toNat : Int)) := by simpa [Addr.add] using hc0
  have hn := fl_bd b
  have H := Lib.hid h; clear h
  have HM := Lib.hid hm; clear hm
  have Hl := Lib.hid hl
  have HT : ∃ A1 c1, Hid (Rd w A1 (cB r)) ∧ Hid ((c = 1 ∧ r.length = 0 ∧ A1 = some ad ∧ c1 = 0) ∨ (c ≠ 1 ∧ A1 = some ⟨ad.block, ad.off + 1, none⟩ ∧ c1 = c - 1)) := by
    have ht := (H.out).tail (by simpa [cB] using hc)
    by_cases h1 : c = 1
    · exact ⟨some ad, 0, by rw [if_pos h1] at ht; exact ht, .inl ⟨h1, by omega, rfl, rfl⟩⟩
    · exact ⟨_, _, by rw [if_neg h1] at ht; exact ht, .inr ⟨h1, rfl, rfl⟩⟩
  obtain ⟨A1, c1, HT1, HT2⟩ := HT
  obtain ⟨an, han⟩ : ∃ an, an = r.any notc := ⟨_, rfl⟩
  obtain ⟨f1, hf1⟩ : ∃ f1, f1 = fitsB (low (b :: r)) (fl b) := ⟨_, rfl⟩
  obtain ⟨f2, hf2⟩ : ∃ f2, f2 = fitsB (high (b :: r)) (fl b) := ⟨_, rfl⟩
  have hfin : begB (b :: r) = (!an && (f1 || f2)) := by rw [han, hf1, hf2]; rfl
  have Han := Lib.hid han; clear han
  have Hf1 := Lib.hid hf1; clear hf1
  have Hf2 := Lib.hid hf2; clear hf2
  have Hfin := Lib.hid hfin; clear hfin
  have rest : Calls Tryz.prog 129 #[.slice (some ad) (r.length + 1) c] w fun e w' => e = .returned (.bool (!an && (f1 || f2))) ∧ Below w.heap.size w w' := by
    rcases HT2.out with ⟨hc1, hr, rfl, rfl⟩ | ⟨hc1, rfl, rfl⟩
    · subst hc1
      obtain rfl : r = [] := List.eq_nil_of_length_eq_zero hr
      clear hr HT2
      simp only [List.length_nil] at *
      cases an
      · go_enter Tryz.func129, Tryz.ntmps129
        go_wp2_with fail
        refine (containsFunc_any _ _ [] _ HT1.out (by simp)).mono ?_
        rintro e w' ⟨rfl, rfl⟩
        go_wp2_with fail
        refine (firstLength_any _ _).mono ?_
        rintro e w' ⟨rfl, rfl⟩
        go_wp2_with fail
        refine (span_any _ _ b [] _ H.out HM.out Hl.out (Nat.le_refl _)).mono ?_
        rintro e w1 ⟨rfl, hb1⟩
        go_wp2_with fail
        refine (fits_any _ _ _).mono ?_
        rintro e w' ⟨rfl, rfl⟩
        rw [← Hf1.out]
        cases f1
        · go_wp2_with fail
          refine (fits_any _ _ _).mono ?_
          rintro e w' ⟨rfl, rfl⟩
          rw [← Hf2.out]
          go_wp2
          go_ret
          exact ⟨by cases f2 <;> rfl, hb1⟩
        · go_wp2
          go_ret
          exact ⟨by cases f2 <;> rfl, hb1⟩
      · exact absurd Han.out (by simp)
    · cases an
      · go_enter Tryz.func129, Tryz.ntmps129
        go_wp2_with fail
        refine (containsFunc_any _ _ r _ HT1.out (by omega)).mono ?_
        rintro e w' ⟨rfl, rfl⟩
        rw [← Han.out]
        go_wp2_with fail
        refine (firstLength_any _ _).mono ?_
        rintro e w' ⟨rfl, rfl⟩
        go_wp2_with fail
        refine (span_any _ _ b r _ H.out HM.out Hl.out hc).mono ?_
        rintro e w1 ⟨rfl, hb1⟩
        go_wp2_with fail
        refine (fits_any _ _ _).mono ?_
        rintro e w' ⟨rfl, rfl⟩
        rw [← Hf1.out]
        cases f1
        · go_wp2_with fail
          refine (fits_any _ _ _).mono ?_
          rintro e w' ⟨rfl, rfl⟩
          rw [← Hf2.out]
          go_wp2
          go_ret
          exact ⟨by cases f2 <;> rfl, hb1⟩
        · go_wp2
          go_ret
          exact ⟨by cases f2 <;> rfl, hb1⟩
      · go_enter Tryz.func129, Tryz.ntmps129
        go_wp2_with fail
        refine (containsFunc_any _ _ r _ HT1.out (by omega)).mono ?_
        rintro e w' ⟨rfl, rfl⟩
        rw [← Han.out]
        go_wp2
        go_ret
        exact ⟨rfl, Below.refl _ _⟩
  rw [Hfin.out]
  exact rest

set_option maxRecDepth 100000 in
set_option maxHeartbeats 1000000 in
theorem prefix_any (A : Option Addr) (c : Nat) (bs : List UInt8) (w : World) (h : Rd w A (cB bs)) (hm : Mk w) (hc : bs.length ≤ c) (hs : bs.length ≤ 1000000) :
    Calls Tryz.prog 127 #[.slice A bs.length c] w fun e w' => e = .returned (.bool (preB bs)) ∧ Below w.heap.size w w' := by
  cases bs with
  | nil =>
    clear h hm
    go_enter Tryz.func127, Tryz.ntmps127
    go_wp2
    go_ret
    exact ⟨rfl, Below.refl _ _⟩
  | cons b r =>
    obtain ⟨ad, rfl, hblk, hc0⟩ := h 0 (.int .u8 (b.toNat : Int)) rfl
    have hc0 : w.cell? ad = some (.int .u8 (b.toNat : Int)) := by simpa [Addr.add] using hc0
    have hn := fl_bd b
    have H := Lib.hid h; clear h
    have HM := Lib.hid hm; clear hm
    simp only [List.length_cons] at *
    obtain ⟨g, hg⟩ : ∃ g, g = begB (b :: r) := ⟨_, rfl⟩
    have Hg := Lib.hid hg; clear hg
    by_cases hlt : r.length + 1 < fl b
    · have hfin : preB (b :: r) = g := by rw [Hg.out]; simp [preB, hlt]
      rw [hfin]; clear hfin
      go_enter Tryz.func127, Tryz.ntmps127
      go_wp2_with fail
      refine (firstLength_any _ _).mono ?_
      rintro e w' ⟨rfl, rfl⟩
      go_wp2_with fail
      refine (begins_any _ _ b r _ H.out HM.out (by omega) hc).mono ?_
      rintro e w1 ⟨rfl, hb1⟩
      rw [← Hg.out]
      go_wp2
      go_ret
      exact ⟨rfl, hb1⟩
    · have hfin : preB (b :: r) = false := by simp [preB, hlt]
      rw [hfin]; clear hfin
      go_enter Tryz.func127, Tryz.ntmps127
      go_wp2_with fail
      refine (firstLength_any _ _).mono ?_
      rintro e w' ⟨rfl, rfl⟩
      go_wp2
      go_ret
      exact ⟨rfl, Below.refl _ _⟩

end Go.Proofs.YtoilcigmpeaedaaGreatDoor.Utf
