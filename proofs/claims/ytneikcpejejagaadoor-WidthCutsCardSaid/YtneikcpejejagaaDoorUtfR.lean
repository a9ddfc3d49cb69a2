/-
  Contracts of the reference's goes, Right, Flush.
-/
import Derived.Test.YtneikcpejejagaaDoorUtfQ
namespace Go.Proofs.YtneikcpejejagaaDoor.Utf
open Go.RowKit

theorem rbb {a b c d : Bool} (h1 : a = c) (h2 : b = d) : Ending.returned (.tuple #[.bool a, .bool b]) = .returned (.tuple #[.bool c, .bool d]) := by rw [h1, h2]

theorem w_t (n0 n : Nat) {q : Bool} (hq : q = true) : ((n0 : Int) == (n : Int)) = (q && decide (n0 = n)) := by
  subst hq
  rw [Bool.true_and, Bool.eq_iff_iff, beq_iff_eq, decide_eq_true_eq]
  omega
theorem not_dec {p : Prop} [Decidable p] (h : ¬ p) : (!decide p) = true := by rw [decide_eq_false h]; rfl
theorem w_t2 {p : Prop} [Decidable p] (h : ¬ p) (n0 n : Nat) : (!decide p && ((n0 : Int) == (n : Int))) = (true && decide (n0 = n)) := by
  rw [decide_eq_false h]; exact w_t n0 n rfl
theorem pre_goes (b : UInt8) (r : List UInt8) : preB (b :: r) = (goesB (b :: r) && !wholeB (b :: r)) := by
  simp only [preB, wholeB, goesB]
  by_cases h1 : r.length + 1 < fl b
  · rw [decide_eq_true h1, decide_eq_true (show r.length + 1 ≤ fl b by omega), decide_eq_false (show ¬ r.length + 1 = fl b by omega)]
    cases begB (b :: r) <;> rfl
  · rw [decide_eq_false h1]
    by_cases h2 : r.length + 1 = fl b
    · rw [decide_eq_true h2, decide_eq_true (show r.length + 1 ≤ fl b by omega)]
      cases begB (b :: r) <;> rfl
    · rw [decide_eq_false (show ¬ r.length + 1 ≤ fl b by omega)]
      rfl
theorem rsp_lt (bs : List UInt8) (lo hi n : Nat) (h : rsp bs = (lo, hi, n)) : lo ≤ 40000000 ∧ hi ≤ 40000000 := by
  cases bs with
  | nil => simp [rsp] at h; omega
  | cons b r =>
    simp only [rsp] at h
    by_cases hc : ((r.take (rn b - 1)).any notc || decide (rn b < r.length + 1)) = true
    · rw [if_pos hc] at h; cases h; omega
    · rw [if_neg hc] at h
      have ha : (r.take (rn b - 1)).any notc = false := by
        cases hx : (r.take (rn b - 1)).any notc with
        | false => rfl
        | true => rw [hx] at hc; exact absurd rfl hc
      have hk : ∀ j b', j < rn b - 1 → r[j]? = some b' → notc b' = false := fun j b' hj hb => by
        rw [List.any_eq_false] at ha
        have := ha b' (List.mem_of_getElem? (i := j) (by rw [List.getElem?_take_of_lt hj]; exact hb))
        simpa using this
      obtain ⟨q1, q2⟩ := sp_lt (rv b) r (rn b - 1) hk
      have hv := rv_lt b
      have hnl := rn_le b
      have h6 : 64 ^ (rn b - 1) ≤ 64 ^ 3 := Nat.pow_le_pow_right (by omega) (by omega)
      have h5 := Nat.mul_le_mul (show rv b + 1 ≤ 128 by omega) h6
      simp only [Prod.mk.injEq] at h
      omega

set_option maxRecDepth 100000 in
set_option maxHeartbeats 4000000 in
theorem rgoes_any (A : Option Addr) (c n0 : Nat) (bs : List UInt8) (hn : bs.length = n0) (w : World) (h : Rd w A (cB bs)) (hs : bs.length ≤ 1000000) :
    Calls Tryd.prog 39 #[.slice A n0 c] w fun e w' => e = .returned (.tuple #[.bool (goesB bs), .bool (wholeB bs)]) ∧ Below w.heap.size w w' := by
  have H := Lib.hid h; clear h
  have Hn0 := Lib.hid hn; clear hn
  obtain ⟨lo, hi, n, hr⟩ : ∃ lo hi n, rsp bs = (lo, hi, n) := ⟨_, _, _, rfl⟩
  have Hr := Lib.hid hr
  by_cases hz : n = 0
  · subst hz
    have Hg := Lib.hid (goes_zero bs (by rw [hr]))
    have Hw := Lib.hid (show wholeB bs = false by
      cases bs with
      | nil => rfl
      | cons b r => simp only [wholeB, Hg.out]; rfl)
    clear hr
    go_enter Tryd.func39, Tryd.ntmps39
    go_wp2_with fail
    refine (rspan_any A c n0 bs Hn0.out _ H.out hs).mono ?_
    rintro e w' ⟨rfl, rfl⟩
    rw [Hr.out]
    go_wp2
    go_ret2
    exact ⟨rbb Hg.out.symm Hw.out.symm, Below.refl _ _⟩
  · obtain ⟨hn4, hg, hw, hlw⟩ := goes_in bs lo hi n hr hz
    clear hlw
    rw [Hn0.out] at hw
    have hlim : lo ≤ 40000000 ∧ hi ≤ 40000000 := rsp_lt bs lo hi n hr
    have Hg := Lib.hid hg; clear hg
    have Hw := Lib.hid hw; clear hw hr
    rcases (show n = 4 ∨ n = 1 ∨ n = 2 ∨ n = 3 by omega) with rfl | rfl | rfl | rfl
    · clear hz hn4
      rcases (show (lo < 65536 ∧ hi ≤ 1114111 ∧ 65536 ≤ hi) ∨ (lo < 65536 ∧ hi ≤ 1114111 ∧ hi < 65536) ∨ (lo < 65536 ∧ 1114111 < hi) ∨ (65536 ≤ lo ∧ hi ≤ 1114111 ∧ lo ≤ hi) ∨ (65536 ≤ lo ∧ hi ≤ 1114111 ∧ hi < lo) ∨ (65536 ≤ lo ∧ 1114111 < hi ∧ lo ≤ 1114111) ∨ (65536 ≤ lo ∧ 1114111 < hi ∧ 1114111 < lo) by omega) with ⟨p1, p2, p3⟩ | ⟨p1, p2, p3⟩ | ⟨p1, p2⟩ | ⟨p1, p2, p3⟩ | ⟨p1, p2, p3⟩ | ⟨p1, p2, p3⟩ | ⟨p1, p2, p3⟩
      · go_enter Tryd.func39, Tryd.ntmps39
        go_wp2_with fail
        refine (rspan_any A c n0 bs Hn0.out _ H.out hs).mono ?_
        rintro e w' ⟨rfl, rfl⟩
        rw [Hr.out]
        go_wp2_with fail
        go_quiet (fail)
        go_wp2
        go_ret2
        have hin : goesB bs = true := by
          rw [Hg.out]; unfold inB; exact decide_eq_true (by simp only [least, most, Nat.reduceEqDiff, if_true, if_false]; omega)
        exact ⟨rbb (by first | exact hin.symm | (rw [hin]; exact not_dec (by omega))) (by rw [Hw.out, ← Hg.out, hin]; first | exact w_t _ _ (by rfl) | exact w_t2 (by omega) _ _), below_drewN' (((Below.refl _ _).alloc (Nat.le_refl _) _).alloc (by simp) _) _⟩
      · have d1 : decide ((65536 : Int) ≤ (hi : Int)) = false := decide_eq_false (by omega)
        go_enter Tryd.func39, Tryd.ntmps39
        go_wp2_with fail
        refine (rspan_any A c n0 bs Hn0.out _ H.out hs).mono ?_
        rintro e w' ⟨rfl, rfl⟩
        rw [Hr.out]
        go_wp2_with fail
        go_quiet (fail)
        go_wp2
        go_ret2
        have hin : goesB bs = false := by
          rw [Hg.out]; unfold inB; exact decide_eq_false (by simp only [least, most, Nat.reduceEqDiff, if_true, if_false]; omega)
        exact ⟨rbb hin.symm (by rw [Hw.out, ← Hg.out, hin]; rfl), below_drewN' (((Below.refl _ _).alloc (Nat.le_refl _) _).alloc (by simp) _) _⟩
      · go_enter Tryd.func39, Tryd.ntmps39
        go_wp2_with fail
        refine (rspan_any A c n0 bs Hn0.out _ H.out hs).mono ?_
        rintro e w' ⟨rfl, rfl⟩
        rw [Hr.out]
        go_wp2_with fail
        go_quiet (fail)
        go_wp2
        go_ret2
        have hin : goesB bs = true := by
          rw [Hg.out]; unfold inB; exact decide_eq_true (by simp only [least, most, Nat.reduceEqDiff, if_true, if_false]; omega)
        exact ⟨rbb (by first | exact hin.symm | (rw [hin]; exact not_dec (by omega))) (by rw [Hw.out, ← Hg.out, hin]; first | exact w_t _ _ (by rfl) | exact w_t2 (by omega) _ _), below_drewN' (((Below.refl _ _).alloc (Nat.le_refl _) _).alloc (by simp) _) _⟩
      · have d2 : decide ((hi : Int) ≤ 57343) = false := decide_eq_false (by omega)
        go_enter Tryd.func39, Tryd.ntmps39
        go_wp2_with fail
        refine (rspan_any A c n0 bs Hn0.out _ H.out hs).mono ?_
        rintro e w' ⟨rfl, rfl⟩
        rw [Hr.out]
        go_wp2_with fail
        go_quiet (fail)
        go_wp2
        go_ret2
        have hin : goesB bs = true := by
          rw [Hg.out]; unfold inB; exact decide_eq_true (by simp only [least, most, Nat.reduceEqDiff, if_true, if_false]; omega)
        exact ⟨rbb (by first | exact hin.symm | (rw [hin]; exact not_dec (by omega))) (by rw [Hw.out, ← Hg.out, hin]; first | exact w_t _ _ (by rfl) | exact w_t2 (by omega) _ _), below_drewN' (((Below.refl _ _).alloc (Nat.le_refl _) _).alloc (by simp) _) _⟩
      · have d1 : decide ((lo : Int) ≤ (hi : Int)) = false := decide_eq_false (by omega)
        have d2 : decide (lo ≤ hi) = false := decide_eq_false (by omega)
        go_enter Tryd.func39, Tryd.ntmps39
        go_wp2_with fail
        refine (rspan_any A c n0 bs Hn0.out _ H.out hs).mono ?_
        rintro e w' ⟨rfl, rfl⟩
        rw [Hr.out]
        go_wp2_with fail
        go_quiet (fail)
        go_wp2
        go_ret2
        have hin : goesB bs = false := by
          rw [Hg.out]; unfold inB; exact decide_eq_false (by simp only [least, most, Nat.reduceEqDiff, if_true, if_false]; omega)
        exact ⟨rbb hin.symm (by rw [Hw.out, ← Hg.out, hin]; rfl), below_drewN' (((Below.refl _ _).alloc (Nat.le_refl _) _).alloc (by simp) _) _⟩
      · go_enter Tryd.func39, Tryd.ntmps39
        go_wp2_with fail
        refine (rspan_any A c n0 bs Hn0.out _ H.out hs).mono ?_
        rintro e w' ⟨rfl, rfl⟩
        rw [Hr.out]
        go_wp2_with fail
        go_quiet (fail)
        go_wp2
        go_ret2
        have hin : goesB bs = true := by
          rw [Hg.out]; unfold inB; exact decide_eq_true (by simp only [least, most, Nat.reduceEqDiff, if_true, if_false]; omega)
        exact ⟨rbb (by first | exact hin.symm | (rw [hin]; exact not_dec (by omega))) (by rw [Hw.out, ← Hg.out, hin]; first | exact w_t _ _ (by rfl) | exact w_t2 (by omega) _ _), below_drewN' (((Below.refl _ _).alloc (Nat.le_refl _) _).alloc (by simp) _) _⟩
      · have d1 : decide ((lo : Int) ≤ 1114111) = false := decide_eq_false (by omega)
        go_enter Tryd.func39, Tryd.ntmps39
        go_wp2_with fail
        refine (rspan_any A c n0 bs Hn0.out _ H.out hs).mono ?_
        rintro e w' ⟨rfl, rfl⟩
        rw [Hr.out]
        go_wp2_with fail
        go_quiet (fail)
        go_wp2
        go_ret2
        have hin : goesB bs = false := by
          rw [Hg.out]; unfold inB; exact decide_eq_false (by simp only [least, most, Nat.reduceEqDiff, if_true, if_false]; omega)
        exact ⟨rbb hin.symm (by rw [Hw.out, ← Hg.out, hin]; rfl), below_drewN' (((Below.refl _ _).alloc (Nat.le_refl _) _).alloc (by simp) _) _⟩
    all_goals
      clear hz hn4
      go_enter Tryd.func39, Tryd.ntmps39
      go_wp2_with fail
      refine (rspan_any A c n0 bs Hn0.out _ H.out hs).mono ?_
      rintro e w' ⟨rfl, rfl⟩
      rw [Hr.out]
      go_wp2_with fail
      go_quiet (fail)
      go_wp2
      all_goals
        go_ret2
        first
          | (have hin : goesB bs = true := by
               rw [Hg.out]; unfold inB; exact decide_eq_true (by simp only [least, most, Nat.reduceEqDiff, if_true, if_false]; omega)
             exact ⟨rbb (by first | exact hin.symm | (rw [hin]; exact not_dec (by omega))) (by rw [Hw.out, ← Hg.out, hin]; first | exact w_t _ _ (by rfl) | exact w_t2 (by omega) _ _), below_drewN' (((Below.refl _ _).alloc (Nat.le_refl _) _).alloc (by simp) _) _⟩)
          | (have hin : goesB bs = false := by
               rw [Hg.out]; unfold inB; exact decide_eq_false (by simp only [least, most, Nat.reduceEqDiff, if_true, if_false]; omega)
             exact ⟨rbb hin.symm (by rw [Hw.out, ← Hg.out, hin]; rfl), below_drewN' (((Below.refl _ _).alloc (Nat.le_refl _) _).alloc (by simp) _) _⟩)

theorem rright_any (A : Option Addr) (c n0 : Nat) (bs : List UInt8) (hn : bs.length = n0) (w : World) (h : Rd w A (cB bs)) (hs : bs.length ≤ 1000000) :
    Calls Tryd.prog 38 #[.slice A n0 c] w fun e w' => e = .returned (.bool (bs.isEmpty || preB bs)) ∧ Below w.heap.size w w' := by
  have H := Lib.hid h; clear h
  have Hn0 := Lib.hid hn
  cases bs with
  | nil =>
    obtain rfl : n0 = 0 := hn.symm
    clear hn
    go_enter Tryd.func38, Tryd.ntmps38
    go_wp2_with fail
    refine (rgoes_any A c 0 [] rfl _ H.out hs).mono ?_
    rintro e w1 ⟨rfl, hb1⟩
    go_wp2
    go_ret
    exact ⟨rfl, hb1⟩
  | cons b r =>
    have t0 : ((n0 : Int) == 0) = false := by rw [beq_eq_false_iff_ne, ← hn]; simp; omega
    clear hn
    have hpre := pre_goes b r
    obtain ⟨g, hg⟩ : ∃ g, goesB (b :: r) = g := ⟨_, rfl⟩
    obtain ⟨v, hv⟩ : ∃ v, wholeB (b :: r) = v := ⟨_, rfl⟩
    rw [hg, hv] at hpre
    have Hg := Lib.hid hg; clear hg
    have Hv := Lib.hid hv; clear hv
    have Hf := Lib.hid (show ((b :: r).isEmpty || preB (b :: r)) = (g && !v) by rw [hpre]; rfl); clear hpre
    go_enter Tryd.func38, Tryd.ntmps38
    go_wp2_with fail
    refine (rgoes_any A c n0 (b :: r) Hn0.out _ H.out hs).mono ?_
    rintro e w1 ⟨rfl, hb1⟩
    rw [Hg.out, Hv.out]
    cases g
    · go_wp2
      go_ret
      exact ⟨by rw [Hf.out]; rfl, hb1⟩
    · go_wp2
      go_ret
      exact ⟨by rw [Hf.out]; rfl, hb1⟩

set_option maxRecDepth 100000 in
theorem rflush_any (A : Option Addr) (c n0 : Nat) (bs : List UInt8) (hn : bs.length = n0) (w : World) (h : Rd w A (cB bs)) (hs : bs.length ≤ 1000000) :
    Calls Tryd.prog 32 #[.slice A n0 c] w (IntsPost (flushL bs) w) := by
  have H := Lib.hid h; clear h
  have Hn0 := Lib.hid hn
  cases bs with
  | nil =>
    obtain rfl : n0 = 0 := hn.symm
    clear hn
    go_enter Tryd.func32, Tryd.ntmps32
    go_wp2
    go_ret
    exact ⟨none, 0, rfl, Rd.nil _ _, Below.refl _ _, fun _ h => by cases h⟩
  | cons b r =>
    have t0 : (0 : Int) < (n0 : Int) := by rw [← hn, List.length_cons]; omega
    clear hn
    obtain ⟨g, hg⟩ : ∃ g, preB (b :: r) = g := ⟨_, rfl⟩
    have Hg := Lib.hid hg; clear hg
    have Hf := Lib.hid (show flushL (b :: r) = if g then [65533] else [] by simp only [flushL, Hg.out])
    go_enter Tryd.func32, Tryd.ntmps32
    go_wp2_with fail
    refine (rright_any A c n0 (b :: r) Hn0.out _ H.out hs).mono ?_
    rintro e w1 ⟨rfl, hb1⟩
    rw [show ((b :: r).isEmpty || preB (b :: r)) = g by rw [Hg.out]; rfl]
    cases g
    · go_wp2
      go_ret
      refine ⟨none, 0, ?_, ?_, hb1, fun _ h => by cases h⟩
      · rw [Hf.out]; rfl
      · rw [Hf.out]; exact Rd.nil _ _
    · go_wp2
      go_ret
      refine ⟨some ⟨w1.heap.size, 0, none⟩, 1, ?_, ?_, hb1.alloc hb1.size _, fun _ h => by cases h; exact hb1.size⟩
      · rw [Hf.out]; rfl
      · rw [Hf.out]; exact Rd.one _ _ _
end Go.Proofs.YtneikcpejejagaaDoor.Utf
