/-
  Contracts of the reference's Check, attribute, CheckPen, Inverse, Seen of layer 4.
-/
import Derived.Test.YtokjjeekkfefmaaDoorStyJ
import Derived.Test.YtokjjeekkfefmaaDoorStyBits
namespace Go.Proofs.YtokjjeekkfefmaaDoor.Sty
open Go.RowKit Utf Col

set_option maxRecDepth 100000 in
set_option maxHeartbeats 4000000 in
theorem rcheck_any (a u f0 f1 b0 b1 l0 l1 : Int) (w : World) : Calls Tryd.prog 13 #[styV a u f0 f1 b0 b1 l0 l1] w fun e w' => e = .returned (.int .i64 (errS ⟨a, u, f0, f1, b0, b1, l0, l1⟩)) ∧ Below w.heap.size w w' := by
  unfold styV
  obtain ⟨r, hr⟩ : ∃ r, inR a u = r := ⟨_, rfl⟩
  cases r
  · have Hs := Lib.hid (errS_out a u f0 f1 b0 b1 l0 l1 hr)
    simp only [inR, decide_eq_false_iff_not] at hr
    by_cases a0 : a < 0
    · clear hr
      go_enter Tryd.func13, Tryd.ntmps13
      go_wp2
      go_ret
      exact ⟨by rw [Hs.out]; rfl, below_box _ _⟩
    · by_cases a1 : 255 < a
      · clear hr
        go_enter Tryd.func13, Tryd.ntmps13
        go_wp2
        go_ret
        exact ⟨by rw [Hs.out]; rfl, below_box _ _⟩
      · by_cases u0 : u < 0
        · clear hr
          go_enter Tryd.func13, Tryd.ntmps13
          go_wp2
          go_ret
          exact ⟨by rw [Hs.out]; rfl, below_box _ _⟩
        · have u1 : 5 < u := by omega
          clear hr
          go_enter Tryd.func13, Tryd.ntmps13
          go_wp2
          go_ret
          exact ⟨by rw [Hs.out]; rfl, below_box _ _⟩
  · have Hs := Lib.hid (errS_in a u f0 f1 b0 b1 l0 l1 hr)
    simp only [inR, decide_eq_true_eq] at hr
    obtain ⟨a0, a1, u0, u1⟩ := hr
    have x0 : ∀ W, (Instr.index 61 (.agg #[.int .i64 f0, .int .i64 f1, .int .i64 b0, .int .i64 b1, .int .i64 l0, .int .i64 l1]) (.int .i64 0)).run Tryd.prog W = .ok (.agg #[.int .i64 f0, .int .i64 f1]) W := fun _ => by kernel_rfl
    have x1 : ∀ W, (Instr.index 61 (.agg #[.int .i64 f0, .int .i64 f1, .int .i64 b0, .int .i64 b1, .int .i64 l0, .int .i64 l1]) (.int .i64 1)).run Tryd.prog W = .ok (.agg #[.int .i64 b0, .int .i64 b1]) W := fun _ => by kernel_rfl
    have x2 : ∀ W, (Instr.index 61 (.agg #[.int .i64 f0, .int .i64 f1, .int .i64 b0, .int .i64 b1, .int .i64 l0, .int .i64 l1]) (.int .i64 2)).run Tryd.prog W = .ok (.agg #[.int .i64 l0, .int .i64 l1]) W := fun _ => by kernel_rfl
    go_enter Tryd.func13, Tryd.ntmps13
    go_wp2_with fail
    have hb0 := Lib.hid (below_box w (.cells #[.int .i64 a, .int .i64 u, .int .i64 f0, .int .i64 f1, .int .i64 b0, .int .i64 b1, .int .i64 l0, .int .i64 l1] 25))
    go_loopw [31] (fun i wr => ∃ k : Nat, k ≤ 3 ∧ i = .int .i64 k ∧ Hid (Below w.heap.size w wr ∧ (1 ≤ k → okC f0 f1 = true) ∧ (2 ≤ k → okC b0 b1 = true) ∧ (3 ≤ k → okC l0 l1 = true))) (fun i _ => 3 - (intOf i).toNat)
    case atStart => exact ⟨0, by omega, rfl, Lib.hid ⟨hb0.out, fun h => by omega, fun h => by omega, fun h => by omega⟩⟩
    case round =>
      clear hb0
      obtain ⟨k, hk, rfl, hid⟩ := hrel
      obtain ⟨h0, q1, q2, q3⟩ := hid.out
      clear hid
      rcases (show k = 0 ∨ k = 1 ∨ k = 2 ∨ k = 3 by omega) with rfl | rfl | rfl | rfl
      · rw [show (((0 : Nat)) : Int) = 0 from rfl]
        clear q1 q2 q3
        go_wp2_with fail
        have h1 := h0.alloc h0.size (.cells #[.int .i64 f0, .int .i64 f1] 23)
        generalize wr.alloc (.cells #[.int .i64 f0, .int .i64 f1] 23) = w1 at h1 ⊢
        clear h0
        refine (rccheck_any f0 f1 _).mono ?_
        rintro e w2 ⟨rfl, hb2⟩
        have h2 := h1.trans (hb2.mono h1.size)
        clear hb2 h1
        obtain ⟨y, hy⟩ : ∃ y, okC f0 f1 = y := ⟨_, rfl⟩
        cases y
        · rw [errC_not f0 f1 hy]
          have Ho := Lib.hid hy; clear hy
          go_wp2
          go_ret
          exact ⟨by rw [Hs.out, Ho.out]; rfl, h2⟩
        · rw [errC_yes f0 f1 hy]
          have Ho := Lib.hid hy; clear hy
          go_wp2
          go_roundw
          case rel => exact ⟨1, by omega, rfl, Lib.hid ⟨h2, fun _ => Ho.out, fun h => by omega, fun h => by omega⟩⟩
          case measure => simp [intOf]
      · rw [show (((1 : Nat)) : Int) = 1 from rfl]
        have hq1 := Lib.hid (q1 (by omega))
        clear q1 q2 q3
        go_wp2_with fail
        have h1 := h0.alloc h0.size (.cells #[.int .i64 b0, .int .i64 b1] 23)
        generalize wr.alloc (.cells #[.int .i64 b0, .int .i64 b1] 23) = w1 at h1 ⊢
        clear h0
        refine (rccheck_any b0 b1 _).mono ?_
        rintro e w2 ⟨rfl, hb2⟩
        have h2 := h1.trans (hb2.mono h1.size)
        clear hb2 h1
        obtain ⟨y, hy⟩ : ∃ y, okC b0 b1 = y := ⟨_, rfl⟩
        cases y
        · rw [errC_not b0 b1 hy]
          have Ho := Lib.hid hy; clear hy
          go_wp2
          go_ret
          exact ⟨by rw [Hs.out, hq1.out, Ho.out]; rfl, h2⟩
        · rw [errC_yes b0 b1 hy]
          have Ho := Lib.hid hy; clear hy
          go_wp2
          go_roundw
          case rel => exact ⟨2, by omega, rfl, Lib.hid ⟨h2, fun _ => hq1.out, fun _ => Ho.out, fun h => by omega⟩⟩
          case measure => simp [intOf]
      · rw [show (((2 : Nat)) : Int) = 2 from rfl]
        have hq1 := Lib.hid (q1 (by omega))
        have hq2 := Lib.hid (q2 (by omega))
        clear q1 q2 q3
        go_wp2_with fail
        have h1 := h0.alloc h0.size (.cells #[.int .i64 l0, .int .i64 l1] 23)
        generalize wr.alloc (.cells #[.int .i64 l0, .int .i64 l1] 23) = w1 at h1 ⊢
        clear h0
        refine (rccheck_any l0 l1 _).mono ?_
        rintro e w2 ⟨rfl, hb2⟩
        have h2 := h1.trans (hb2.mono h1.size)
        clear hb2 h1
        obtain ⟨y, hy⟩ : ∃ y, okC l0 l1 = y := ⟨_, rfl⟩
        cases y
        · rw [errC_not l0 l1 hy]
          have Ho := Lib.hid hy; clear hy
          go_wp2
          go_ret
          exact ⟨by rw [Hs.out, hq1.out, hq2.out, Ho.out]; rfl, h2⟩
        · rw [errC_yes l0 l1 hy]
          have Ho := Lib.hid hy; clear hy
          go_wp2
          go_roundw
          case rel => exact ⟨3, by omega, rfl, Lib.hid ⟨h2, fun _ => hq1.out, fun _ => hq2.out, fun _ => Ho.out⟩⟩
          case measure => simp [intOf]
      · have hq1 := Lib.hid (q1 (by omega))
        have hq2 := Lib.hid (q2 (by omega))
        have hq3 := Lib.hid (q3 (by omega))
        clear q1 q2 q3
        rw [show (((3 : Nat)) : Int) = 3 from rfl]
        go_wp2
        go_ret
        exact ⟨by rw [Hs.out, hq1.out, hq2.out, hq3.out]; rfl, h0⟩
theorem attr_yes (m : Int) (h : m = 1 ∨ m = 2 ∨ m = 4 ∨ m = 8 ∨ m = 16 ∨ m = 32 ∨ m = 64 ∨ m = 128) : attr m = true := decide_eq_true h
theorem attr_not (m : Int) (h : ¬ (m = 1 ∨ m = 2 ∨ m = 4 ∨ m = 8 ∨ m = 16 ∨ m = 32 ∨ m = 64 ∨ m = 128)) : attr m = false := decide_eq_false h
def pw (k : Nat) : Int := [1, 2, 4, 8, 16, 32, 64, 128].getD k 0
set_option maxRecDepth 100000 in
set_option maxHeartbeats 4000000 in
theorem rattribute_any (m : Int) (w : World) : Calls Tryd.prog 33 #[.int .i64 m] w fun e w' => e = .returned (.bool (attr m)) ∧ w = w' := by
  have x0 : ∀ W, (Instr.index 71 (.agg #[.int .i64 1, .int .i64 2, .int .i64 4, .int .i64 8, .int .i64 16, .int .i64 32, .int .i64 64, .int .i64 128]) (.int .i64 0)).run Tryd.prog W = .ok (.int .i64 1) W := fun _ => by kernel_rfl
  have x1 : ∀ W, (Instr.index 71 (.agg #[.int .i64 1, .int .i64 2, .int .i64 4, .int .i64 8, .int .i64 16, .int .i64 32, .int .i64 64, .int .i64 128]) (.int .i64 1)).run Tryd.prog W = .ok (.int .i64 2) W := fun _ => by kernel_rfl
  have x2 : ∀ W, (Instr.index 71 (.agg #[.int .i64 1, .int .i64 2, .int .i64 4, .int .i64 8, .int .i64 16, .int .i64 32, .int .i64 64, .int .i64 128]) (.int .i64 2)).run Tryd.prog W = .ok (.int .i64 4) W := fun _ => by kernel_rfl
  have x3 : ∀ W, (Instr.index 71 (.agg #[.int .i64 1, .int .i64 2, .int .i64 4, .int .i64 8, .int .i64 16, .int .i64 32, .int .i64 64, .int .i64 128]) (.int .i64 3)).run Tryd.prog W = .ok (.int .i64 8) W := fun _ => by kernel_rfl
  have x4 : ∀ W, (Instr.index 71 (.agg #[.int .i64 1, .int .i64 2, .int .i64 4, .int .i64 8, .int .i64 16, .int .i64 32, .int .i64 64, .int .i64 128]) (.int .i64 4)).run Tryd.prog W = .ok (.int .i64 16) W := fun _ => by kernel_rfl
  have x5 : ∀ W, (Instr.index 71 (.agg #[.int .i64 1, .int .i64 2, .int .i64 4, .int .i64 8, .int .i64 16, .int .i64 32, .int .i64 64, .int .i64 128]) (.int .i64 5)).run Tryd.prog W = .ok (.int .i64 32) W := fun _ => by kernel_rfl
  have x6 : ∀ W, (Instr.index 71 (.agg #[.int .i64 1, .int .i64 2, .int .i64 4, .int .i64 8, .int .i64 16, .int .i64 32, .int .i64 64, .int .i64 128]) (.int .i64 6)).run Tryd.prog W = .ok (.int .i64 64) W := fun _ => by kernel_rfl
  have x7 : ∀ W, (Instr.index 71 (.agg #[.int .i64 1, .int .i64 2, .int .i64 4, .int .i64 8, .int .i64 16, .int .i64 32, .int .i64 64, .int .i64 128]) (.int .i64 7)).run Tryd.prog W = .ok (.int .i64 128) W := fun _ => by kernel_rfl
  go_enter Tryd.func33, Tryd.ntmps33
  go_wp2_with fail
  go_loopw [3] (fun i wr => ∃ k : Nat, k ≤ 8 ∧ i = .int .i64 k ∧ Hid (w = wr ∧ ∀ j, j < k → m ≠ pw j)) (fun i _ => 8 - (intOf i).toNat)
  case atStart => exact ⟨0, by omega, rfl, Lib.hid ⟨rfl, fun j hj => by omega⟩⟩
  case round =>
    obtain ⟨k, hk, rfl, hid⟩ := hrel
    obtain ⟨rfl, hq⟩ := hid.out
    clear hid
    rcases (show k = 0 ∨ k = 1 ∨ k = 2 ∨ k = 3 ∨ k = 4 ∨ k = 5 ∨ k = 6 ∨ k = 7 ∨ k = 8 by omega) with rfl | rfl | rfl | rfl | rfl | rfl | rfl | rfl | rfl
    · rw [show (((0 : Nat)) : Int) = 0 from rfl]
      by_cases hm : m = 1
      · have Hf := Lib.hid (attr_yes m (by omega))
        subst hm
        clear hq
        go_wp2
        go_ret
        exact ⟨by rw [Hf.out]; rfl, rfl⟩
      · have Hq := Lib.hid (show ∀ j, j < 1 → m ≠ pw j from fun j hj => by
          rcases Nat.lt_succ_iff_lt_or_eq.1 hj with h | h
          · exact hq j h
          · subst h; exact hm)
        have d0 : (m == 1) = false := by simp [hm]
        clear hq hm
        go_wp2
        go_roundw
        case rel => exact ⟨1, by omega, rfl, Lib.hid ⟨by trivial, Hq.out⟩⟩
        case measure => simp [intOf]
    · rw [show (((1 : Nat)) : Int) = 1 from rfl]
      by_cases hm : m = 2
      · have Hf := Lib.hid (attr_yes m (by omega))
        subst hm
        clear hq
        go_wp2
        go_ret
        exact ⟨by rw [Hf.out]; rfl, rfl⟩
      · have Hq := Lib.hid (show ∀ j, j < 2 → m ≠ pw j from fun j hj => by
          rcases Nat.lt_succ_iff_lt_or_eq.1 hj with h | h
          · exact hq j h
          · subst h; exact hm)
        have d0 : (m == 2) = false := by simp [hm]
        clear hq hm
        go_wp2
        go_roundw
        case rel => exact ⟨2, by omega, rfl, Lib.hid ⟨by trivial, Hq.out⟩⟩
        case measure => simp [intOf]
    · rw [show (((2 : Nat)) : Int) = 2 from rfl]
      by_cases hm : m = 4
      · have Hf := Lib.hid (attr_yes m (by omega))
        subst hm
        clear hq
        go_wp2
        go_ret
        exact ⟨by rw [Hf.out]; rfl, rfl⟩
      · have Hq := Lib.hid (show ∀ j, j < 3 → m ≠ pw j from fun j hj => by
          rcases Nat.lt_succ_iff_lt_or_eq.1 hj with h | h
          · exact hq j h
          · subst h; exact hm)
        have d0 : (m == 4) = false := by simp [hm]
        clear hq hm
        go_wp2
        go_roundw
        case rel => exact ⟨3, by omega, rfl, Lib.hid ⟨by trivial, Hq.out⟩⟩
        case measure => simp [intOf]
    · rw [show (((3 : Nat)) : Int) = 3 from rfl]
      by_cases hm : m = 8
      · have Hf := Lib.hid (attr_yes m (by omega))
        subst hm
        clear hq
        go_wp2
        go_ret
        exact ⟨by rw [Hf.out]; rfl, rfl⟩
      · have Hq := Lib.hid (show ∀ j, j < 4 → m ≠ pw j from fun j hj => by
          rcases Nat.lt_succ_iff_lt_or_eq.1 hj with h | h
          · exact hq j h
          · subst h; exact hm)
        have d0 : (m == 8) = false := by simp [hm]
        clear hq hm
        go_wp2
        go_roundw
        case rel => exact ⟨4, by omega, rfl, Lib.hid ⟨by trivial, Hq.out⟩⟩
        case measure => simp [intOf]
    · rw [show (((4 : Nat)) : Int) = 4 from rfl]
      by_cases hm : m = 16
      · have Hf := Lib.hid (attr_yes m (by omega))
        subst hm
        clear hq
        go_wp2
        go_ret
        exact ⟨by rw [Hf.out]; rfl, rfl⟩
      · have Hq := Lib.hid (show ∀ j, j < 5 → m ≠ pw j from fun j hj => by
          rcases Nat.lt_succ_iff_lt_or_eq.1 hj with h | h
          · exact hq j h
          · subst h; exact hm)
        have d0 : (m == 16) = false := by simp [hm]
        clear hq hm
        go_wp2
        go_roundw
        case rel => exact ⟨5, by omega, rfl, Lib.hid ⟨by trivial, Hq.out⟩⟩
        case measure => simp [intOf]
    · rw [show (((5 : Nat)) : Int) = 5 from rfl]
      by_cases hm : m = 32
      · have Hf := Lib.hid (attr_yes m (by omega))
        subst hm
        clear hq
        go_wp2
        go_ret
        exact ⟨by rw [Hf.out]; rfl, rfl⟩
      · have Hq := Lib.hid (show ∀ j, j < 6 → m ≠ pw j from fun j hj => by
          rcases Nat.lt_succ_iff_lt_or_eq.1 hj with h | h
          · exact hq j h
          · subst h; exact hm)
        have d0 : (m == 32) = false := by simp [hm]
        clear hq hm
        go_wp2
        go_roundw
        case rel => exact ⟨6, by omega, rfl, Lib.hid ⟨by trivial, Hq.out⟩⟩
        case measure => simp [intOf]
    · rw [show (((6 : Nat)) : Int) = 6 from rfl]
      by_cases hm : m = 64
      · have Hf := Lib.hid (attr_yes m (by omega))
        subst hm
        clear hq
        go_wp2
        go_ret
        exact ⟨by rw [Hf.out]; rfl, rfl⟩
      · have Hq := Lib.hid (show ∀ j, j < 7 → m ≠ pw j from fun j hj => by
          rcases Nat.lt_succ_iff_lt_or_eq.1 hj with h | h
          · exact hq j h
          · subst h; exact hm)
        have d0 : (m == 64) = false := by simp [hm]
        clear hq hm
        go_wp2
        go_roundw
        case rel => exact ⟨7, by omega, rfl, Lib.hid ⟨by trivial, Hq.out⟩⟩
        case measure => simp [intOf]
    · rw [show (((7 : Nat)) : Int) = 7 from rfl]
      by_cases hm : m = 128
      · have Hf := Lib.hid (attr_yes m (by omega))
        subst hm
        clear hq
        go_wp2
        go_ret
        exact ⟨by rw [Hf.out]; rfl, rfl⟩
      · have Hq := Lib.hid (show ∀ j, j < 8 → m ≠ pw j from fun j hj => by
          rcases Nat.lt_succ_iff_lt_or_eq.1 hj with h | h
          · exact hq j h
          · subst h; exact hm)
        have d0 : (m == 128) = false := by simp [hm]
        clear hq hm
        go_wp2
        go_roundw
        case rel => exact ⟨8, by omega, rfl, Lib.hid ⟨by trivial, Hq.out⟩⟩
        case measure => simp [intOf]
    · rw [show (((8 : Nat)) : Int) = 8 from rfl]
      have Hf := Lib.hid (attr_not m (by
        intro h
        rcases h with h | h | h | h | h | h | h | h
        · exact hq 0 (by omega) h
        · exact hq 1 (by omega) h
        · exact hq 2 (by omega) h
        · exact hq 3 (by omega) h
        · exact hq 4 (by omega) h
        · exact hq 5 (by omega) h
        · exact hq 6 (by omega) h
        · exact hq 7 (by omega) h))
      clear hq
      go_wp2
      go_ret
      exact ⟨by rw [Hf.out]; rfl, rfl⟩
end Go.Proofs.YtokjjeekkfefmaaDoor.Sty
