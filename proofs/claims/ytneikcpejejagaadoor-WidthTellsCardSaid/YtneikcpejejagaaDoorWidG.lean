/-
  Contracts of the reference's zero, two, in, Of of layer 2.
-/
import Derived.Test.YtneikcpejejagaaDoorWidF
import Derived.Test.YtneikcpejejagaaDoorUtfO
namespace Go.Proofs.YtneikcpejejagaaDoor.Wid
open Go.RowKit Utf

set_option maxRecDepth 100000 in
set_option maxHeartbeats 1000000 in
theorem rzero_any (w : World) : Calls Tryd.prog 22 #[] w fun e w' => e = .returned (.slice (some ⟨w.heap.size, 0, none⟩) 11 11) ∧ w' = w.alloc (.cells (cS zeroT).toArray 27) := by
  go_enter Tryd.func22, Tryd.ntmps22
  go_wp2
  go_ret
  exact ⟨rfl, rfl⟩
set_option maxRecDepth 100000 in
set_option maxHeartbeats 1000000 in
theorem rtwo_any (w : World) : Calls Tryd.prog 23 #[] w fun e w' => e = .returned (.slice (some ⟨w.heap.size, 0, none⟩) 15 15) ∧ w' = w.alloc (.cells (cS twoT).toArray 27) := by
  go_enter Tryd.func23, Tryd.ntmps23
  go_wp2
  go_ret
  exact ⟨rfl, rfl⟩

set_option maxRecDepth 100000 in
set_option maxHeartbeats 1000000 in
theorem rin_any (ad : Addr) (cap : Nat) (l : List (Int × Int)) (c : Int) (w : World) (h : Rd w (some ad) (cS l)) (hl : l.length ≤ 1000) :
    Calls Tryd.prog 21 #[.slice (some ad) l.length cap, .int .i64 c] w fun e w' => e = .returned (.bool (inR l c)) ∧ w = w' := by
  have H := Lib.hid h; clear h
  go_enter Tryd.func21, Tryd.ntmps21
  go_wp2
  go_loop [5] (fun i => ∃ k : Nat, k ≤ l.length ∧ i = .int .i64 k ∧ Hid (inR l c = inR (l.drop k) c)) (fun i => l.length - (intOf i).toNat)
  case atStart => exact ⟨0, Nat.zero_le _, rfl, rfl⟩
  case round =>
    obtain ⟨k, hk, rfl, hd⟩ := hrel
    by_cases hlt : k < l.length
    · obtain ⟨p, hp⟩ : ∃ p, l[k]? = some p := ⟨l[k], by simp [hlt]⟩
      obtain ⟨_, e0, _, hc0⟩ := (H.out) _ _ (cS_at l k p hp).1
      obtain ⟨_, e1, _, hc1⟩ := (H.out) _ _ (cS_at l k p hp).2
      cases e0
      cases e1
      rw [show 2 * k = k * 2 by omega] at hc0 hc1
      have hc2 : w.cell? ⟨(ad.add (k * 2)).block, (ad.add (k * 2)).off + 1, none⟩ = some (.int .i64 p.2) := by rw [← hc1, ← Deep.add_add]; rfl
      clear hc1
      have Hp := Lib.hid hp; clear hp
      by_cases h1 : p.1 ≤ c
      · by_cases h2 : c ≤ p.2
        · go_wp2
          go_ret
          exact ⟨by rw [hd.out, inR_drop l k p c Hp.out, decide_eq_true h1, decide_eq_true h2]; rfl, rfl⟩
        · go_wp2
          go_round
          case rel => exact ⟨k + 1, by omega, by go_num, by show _ = _; rw [hd.out, inR_drop l k p c Hp.out, decide_eq_false h2]; simp⟩
          case measure => simp [intOf]; omega
      · go_wp2
        go_round
        case rel => exact ⟨k + 1, by omega, by go_num, by show _ = _; rw [hd.out, inR_drop l k p c Hp.out, decide_eq_false h1]; simp⟩
        case measure => simp [intOf]; omega
    · go_wp2
      go_ret
      exact ⟨by rw [hd.out, List.drop_of_length_le (by omega)]; rfl, rfl⟩
theorem rin_yes (b n cap : Nat) (l : List (Int × Int)) (c : Int) (q : Bool) (w : World) (hn : l.length = n) (h : w.rangeAt b 0 (cS l)) (hb : b < w.heap.size) (hl : l.length ≤ 1000) (hq : inR l c = q) :
    Calls Tryd.prog 21 #[.slice (some ⟨b, 0, none⟩) n cap, .int .i64 c] w fun e w' => e = .returned (.bool q) ∧ w = w' := by
  subst hn; subst hq; exact rin_any _ _ _ _ _ (rd_range h hb) hl
theorem range_new (w : World) (l : List Value) (t : TypeId) : (w.alloc (.cells l.toArray t)).rangeAt w.heap.size 0 l := fun j u hu => by
  rw [cell_of_row _ _ _ l.toArray t (0, 0) (heap_alloc_new w _), Nat.zero_add]
  simpa using hu
theorem ctl_lo (c : Int) (h : chk c = true) (h1 : c < 32) : inR ctlT c = true := by
  have : 0 ≤ c := by simp [chk] at h; exact h.1
  simp only [inR, ctlT, Bool.or_eq_true, Bool.and_eq_true, decide_eq_true_eq]
  omega
theorem ctl_hi (c : Int) (h1 : 127 ≤ c) (h2 : c < 160) : inR ctlT c = true := by
  simp only [inR, ctlT, Bool.or_eq_true, Bool.and_eq_true, decide_eq_true_eq]
  omega
theorem ctl_no (c : Int) (h1 : ¬ c < 32) (h2 : ¬ (127 ≤ c ∧ c < 160)) : inR ctlT c = false := by
  rw [Bool.eq_false_iff]
  simp only [inR, ctlT, ne_eq, Bool.or_eq_true, Bool.and_eq_true, decide_eq_true_eq, Bool.false_eq_true, or_false]
  omega

set_option maxRecDepth 100000 in
set_option maxHeartbeats 2000000 in
theorem rof_any (c : Int) (w : World) : Calls Tryd.prog 9 #[.int .i64 c] w fun e w' => e = .returned (.int .i64 (wid c)) ∧ Below w.heap.size w w' := by
  go_enter Tryd.func9, Tryd.ntmps9
  go_wp2_with fail
  refine (rcheck_any _ _).mono ?_
  rintro e w' ⟨rfl, rfl⟩
  cases hc : chk c with
  | false =>
    have HC := Lib.hid hc; clear hc
    go_wp2
    go_ret
    exact ⟨by rw [wid_no c HC.out]; rfl, Below.refl _ _⟩
  | true =>
    have HC := Lib.hid hc; clear hc
    by_cases h1 : c < 32
    · go_wp2
      go_ret
      exact ⟨by rw [wid_ctl c HC.out (ctl_lo c HC.out h1)]; rfl, Below.refl _ _⟩
    · by_cases h2 : 127 ≤ c ∧ c < 160
      · obtain ⟨h2, h3⟩ := h2
        go_wp2
        go_ret
        exact ⟨by rw [wid_ctl c HC.out (ctl_hi c h2 h3)]; rfl, Below.refl _ _⟩
      · have H1 := Lib.hid (ctl_no c h1 h2)
        rcases (show c < 127 ∨ (127 ≤ c ∧ ¬ c < 160) by omega) with h3 | ⟨h3, h4⟩
        all_goals
          clear h2
          go_wp2_with fail
          refine (rzero_any _).mono ?_
          rintro e w1 ⟨rfl, hw1⟩
          have r1 := range_new w (cS zeroT) 27
          have hb1 : Below w.heap.size w (w.alloc (.cells (cS zeroT).toArray 27)) := (Below.refl _ _).alloc (Nat.le_refl _) _
          have hs1 : w.heap.size < (w.alloc (.cells (cS zeroT).toArray 27)).heap.size := by simp
          rw [← hw1] at r1 hb1 hs1
          have R1 := Lib.hid r1
          clear r1 hw1
          cases hz : inR zeroT c with
          | true =>
            have HZ := Lib.hid hz; clear hz
            go_wp2_with fail
            refine (rin_yes _ 11 _ zeroT c true _ rfl R1.out hs1 (by decide) HZ.out).mono ?_
            rintro e w2 ⟨rfl, rfl⟩
            go_wp2
            go_ret
            exact ⟨by rw [wid_zero c HC.out H1.out HZ.out]; rfl, hb1⟩
          | false =>
            have HZ := Lib.hid hz; clear hz
            go_wp2_with fail
            refine (rin_yes _ 11 _ zeroT c false _ rfl R1.out hs1 (by decide) HZ.out).mono ?_
            rintro e w2 ⟨rfl, rfl⟩
            clear R1
            go_wp2_with fail
            refine (rtwo_any _).mono ?_
            rintro e w3 ⟨rfl, hw3⟩
            have r1 := range_new w1 (cS twoT) 27
            have hb3 : Below w1.heap.size w1 (w1.alloc (.cells (cS twoT).toArray 27)) := (Below.refl _ _).alloc (Nat.le_refl _) _
            have hs3 : w1.heap.size < (w1.alloc (.cells (cS twoT).toArray 27)).heap.size := by simp
            rw [← hw3] at r1 hb3 hs3
            have R1 := Lib.hid r1
            clear r1 hw3
            have hb4 := hb1.trans (hb3.mono hb1.size)
            cases ht : inR twoT c with
            | true =>
              have HT := Lib.hid ht; clear ht
              go_wp2_with fail
              refine (rin_yes _ 15 _ twoT c true _ rfl R1.out hs3 (by decide) HT.out).mono ?_
              rintro e w4 ⟨rfl, rfl⟩
              go_wp2
              go_ret
              exact ⟨by rw [wid_two c HC.out H1.out HZ.out HT.out]; rfl, hb4⟩
            | false =>
              have HT := Lib.hid ht; clear ht
              go_wp2_with fail
              refine (rin_yes _ 15 _ twoT c false _ rfl R1.out hs3 (by decide) HT.out).mono ?_
              rintro e w4 ⟨rfl, rfl⟩
              go_wp2
              go_ret
              exact ⟨by rw [wid_one c HC.out H1.out HZ.out HT.out]; rfl, hb4⟩
end Go.Proofs.YtneikcpejejagaaDoor.Wid
