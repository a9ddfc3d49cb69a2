/-
  Contracts of the style package's Check, Inverse, Seen.
-/
import Derived.Test.YtokjjeekkfefmaaDoorStyB
namespace Go.Proofs.YtokjjeekkfefmaaDoor.Sty
open Go.RowKit Utf Col

def styV (a u f0 f1 b0 b1 l0 l1 : Int) : Value := .agg #[.int .i64 a, .int .i64 u, .int .i64 f0, .int .i64 f1, .int .i64 b0, .int .i64 b1, .int .i64 l0, .int .i64 l1]
theorem zero_run (a u f0 f1 b0 b1 l0 l1 : Int) (b : Bool) (h : eqS ⟨a, u, f0, f1, b0, b1, l0, l1⟩ z8 = b) (w : World) : (binOp .eql 25 (.agg #[.int .i64 a, .int .i64 u, .int .i64 f0, .int .i64 f1, .int .i64 b0, .int .i64 b1, .int .i64 l0, .int .i64 l1]) (.agg #[.int .i64 0, .int .i64 0, .int .i64 0, .int .i64 0, .int .i64 0, .int .i64 0, .int .i64 0, .int .i64 0])).run Tryd.prog w = .ok (.bool b) w := by
  rw [eqlS, ← h]; rfl
theorem errS_z : errS z8 = 0 := by decide
theorem errS_out (a u f0 f1 b0 b1 l0 l1 : Int) (h : inR a u = false) : errS ⟨a, u, f0, f1, b0, b1, l0, l1⟩ = 140 := by
  unfold errS; rw [h]; rfl
theorem errS_in (a u f0 f1 b0 b1 l0 l1 : Int) (h : inR a u = true) : errS ⟨a, u, f0, f1, b0, b1, l0, l1⟩ = if okC f0 f1 && (okC b0 b1 && okC l0 l1) then 0 else 130 := by
  unfold errS; rw [h]; rfl
theorem errC_yes (x y : Int) (h : okC x y = true) : errC x y = 0 := by unfold errC; rw [h]; rfl
theorem errC_not (x y : Int) (h : okC x y = false) : errC x y = 130 := by unfold errC; rw [h]; rfl
set_option maxRecDepth 100000 in
set_option maxHeartbeats 4000000 in
theorem check_any (a u f0 f1 b0 b1 l0 l1 : Int) (w : World) (h : Tl w) : Calls Tryd.prog 12 #[styV a u f0 f1 b0 b1 l0 l1] w fun e w' => e = .returned (.int .i64 (errS ⟨a, u, f0, f1, b0, b1, l0, l1⟩)) ∧ Below w.heap.size w w' := by
  have H := Lib.hid h; clear h
  unfold styV
  obtain ⟨z, hz⟩ : ∃ z, eqS ⟨a, u, f0, f1, b0, b1, l0, l1⟩ z8 = z := ⟨_, rfl⟩
  have e1 := zero_run a u f0 f1 b0 b1 l0 l1 z hz
  cases z
  · clear hz
    obtain ⟨r, hr⟩ : ∃ r, inR a u = r := ⟨_, rfl⟩
    cases r
    · have Hs := Lib.hid (errS_out a u f0 f1 b0 b1 l0 l1 hr)
      simp only [inR, decide_eq_false_iff_not] at hr
      by_cases a0 : a < 0
      · clear hr
        go_enter Tryd.func12, Tryd.ntmps12
        go_wp2
        go_ret
        exact ⟨by rw [Hs.out]; rfl, below_box _ _⟩
      · by_cases a1 : 255 < a
        · clear hr
          go_enter Tryd.func12, Tryd.ntmps12
          go_wp2
          go_ret
          exact ⟨by rw [Hs.out]; rfl, below_box _ _⟩
        · have hu := Lib.hid (show (decide (0 ≤ u) && decide (u ≤ 5)) = false by simp; omega)
          clear hr
          go_enter Tryd.func12, Tryd.ntmps12
          go_wp2_with fail
          refine (isUnder_any u _).mono ?_
          rw [hu.out]
          rintro e w1 ⟨rfl, rfl⟩
          go_wp2
          go_ret
          exact ⟨by rw [Hs.out]; rfl, below_box _ _⟩
    · have Hs := Lib.hid (errS_in a u f0 f1 b0 b1 l0 l1 hr)
      simp only [inR, decide_eq_true_eq] at hr
      obtain ⟨a0, a1, u0, u1⟩ := hr
      have hu := Lib.hid (show (decide (0 ≤ u) && decide (u ≤ 5)) = true by simp; omega)
      have x0 : ∀ W, (Instr.index 61 (.agg #[.int .i64 f0, .int .i64 f1, .int .i64 b0, .int .i64 b1, .int .i64 l0, .int .i64 l1]) (.int .i64 0)).run Tryd.prog W = .ok (.agg #[.int .i64 f0, .int .i64 f1]) W := fun _ => by kernel_rfl
      have x1 : ∀ W, (Instr.index 61 (.agg #[.int .i64 f0, .int .i64 f1, .int .i64 b0, .int .i64 b1, .int .i64 l0, .int .i64 l1]) (.int .i64 1)).run Tryd.prog W = .ok (.agg #[.int .i64 b0, .int .i64 b1]) W := fun _ => by kernel_rfl
      have x2 : ∀ W, (Instr.index 61 (.agg #[.int .i64 f0, .int .i64 f1, .int .i64 b0, .int .i64 b1, .int .i64 l0, .int .i64 l1]) (.int .i64 2)).run Tryd.prog W = .ok (.agg #[.int .i64 l0, .int .i64 l1]) W := fun _ => by kernel_rfl
      go_enter Tryd.func12, Tryd.ntmps12
      go_wp2_with fail
      refine (isUnder_any u _).mono ?_
      rw [hu.out]
      rintro e w1 ⟨rfl, rfl⟩
      go_wp2_with fail
      have hb0 := Lib.hid (below_box w (.cells #[.int .i64 a, .int .i64 u, .int .i64 f0, .int .i64 f1, .int .i64 b0, .int .i64 b1, .int .i64 l0, .int .i64 l1] 25))
      go_loopw [30] (fun i wr => ∃ k : Nat, k ≤ 3 ∧ i = .int .i64 k ∧ Hid (Below w.heap.size w wr ∧ (1 ≤ k → okC f0 f1 = true) ∧ (2 ≤ k → okC b0 b1 = true) ∧ (3 ≤ k → okC l0 l1 = true))) (fun i _ => 3 - (intOf i).toNat)
      case atStart => exact ⟨0, by omega, rfl, Lib.hid ⟨hb0.out, fun h => by omega, fun h => by omega, fun h => by omega⟩⟩
      case round =>
        clear hb0
        obtain ⟨k, hk, rfl, hid⟩ := hrel
        obtain ⟨h0, q1, q2, q3⟩ := hid.out
        clear hid
        rcases (show k = 0 ∨ k = 1 ∨ k = 2 ∨ k = 3 by omega) with rfl | rfl | rfl | rfl
        · rw [show (((0 : Nat)) : Int) = 0 from rfl]
          clear q1 q2 q3
          go_wp2_with fail
          have h1 := h0.alloc h0.size (.cells #[.int .i64 f0, .int .i64 f1] 23)
          generalize wr.alloc (.cells #[.int .i64 f0, .int .i64 f1] 23) = w1 at h1 ⊢
          clear h0
          refine (ccheck_any f0 f1 _ ((H.out).keep h1)).mono ?_
          rintro e w2 ⟨rfl, hb2⟩
          have h2 := h1.trans (hb2.mono h1.size)
          clear hb2 h1
          obtain ⟨y, hy⟩ : ∃ y, okC f0 f1 = y := ⟨_, rfl⟩
          cases y
          · rw [errC_not f0 f1 hy]
            have Ho := Lib.hid hy; clear hy
            go_wp2
            go_ret
            exact ⟨by rw [Hs.out, Ho.out]; rfl, h2⟩
          · rw [errC_yes f0 f1 hy]
            have Ho := Lib.hid hy; clear hy
            go_wp2
            go_roundw
            case rel => exact ⟨1, by omega, rfl, Lib.hid ⟨h2, fun _ => Ho.out, fun h => by omega, fun h => by omega⟩⟩
            case measure => simp [intOf]
        · rw [show (((1 : Nat)) : Int) = 1 from rfl]
          have hq1 := Lib.hid (q1 (by omega))
          clear q1 q2 q3
          go_wp2_with fail
          have h1 := h0.alloc h0.size (.cells #[.int .i64 b0, .int .i64 b1] 23)
          generalize wr.alloc (.cells #[.int .i64 b0, .int .i64 b1] 23) = w1 at h1 ⊢
          clear h0
          refine (ccheck_any b0 b1 _ ((H.out).keep h1)).mono ?_
          rintro e w2 ⟨rfl, hb2⟩
          have h2 := h1.trans (hb2.mono h1.size)
          clear hb2 h1
          obtain ⟨y, hy⟩ : ∃ y, okC b0 b1 = y := ⟨_, rfl⟩
          cases y
          · rw [errC_not b0 b1 hy]
            have Ho := Lib.hid hy; clear hy
            go_wp2
            go_ret
            exact ⟨by rw [Hs.out, hq1.out, Ho.out]; rfl, h2⟩
          · rw [errC_yes b0 b1 hy]
            have Ho := Lib.hid hy; clear hy
            go_wp2
            go_roundw
            case rel => exact ⟨2, by omega, rfl, Lib.hid ⟨h2, fun _ => hq1.out, fun _ => Ho.out, fun h => by omega⟩⟩
            case measure => simp [intOf]
        · rw [show (((2 : Nat)) : Int) = 2 from rfl]
          have hq1 := Lib.hid (q1 (by omega))
          have hq2 := Lib.hid (q2 (by omega))
          clear q1 q2 q3
          go_wp2_with fail
          have h1 := h0.alloc h0.size (.cells #[.int .i64 l0, .int .i64 l1] 23)
          generalize wr.alloc (.cells #[.int .i64 l0, .int .i64 l1] 23) = w1 at h1 ⊢
          clear h0
          refine (ccheck_any l0 l1 _ ((H.out).keep h1)).mono ?_
          rintro e w2 ⟨rfl, hb2⟩
          have h2 := h1.trans (hb2.mono h1.size)
          clear hb2 h1
          obtain ⟨y, hy⟩ : ∃ y, okC l0 l1 = y := ⟨_, rfl⟩
          cases y
          · rw [errC_not l0 l1 hy]
            have Ho := Lib.hid hy; clear hy
            go_wp2
            go_ret
            exact ⟨by rw [Hs.out, hq1.out, hq2.out, Ho.out]; rfl, h2⟩
          · rw [errC_yes l0 l1 hy]
            have Ho := Lib.hid hy; clear hy
            go_wp2
            go_roundw
            case rel => exact ⟨3, by omega, rfl, Lib.hid ⟨h2, fun _ => hq1.out, fun _ => hq2.out, fun _ => Ho.out⟩⟩
            case measure => simp [intOf]
        · have hq1 := Lib.hid (q1 (by omega))
          have hq2 := Lib.hid (q2 (by omega))
          have hq3 := Lib.hid (q3 (by omega))
          clear q1 q2 q3
          rw [show (((3 : Nat)) : Int) = 3 from rfl]
          go_wp2
          go_ret
          exact ⟨by rw [Hs.out, hq1.out, hq2.out, hq3.out]; rfl, h0⟩
  · have Hs := Lib.hid (show errS ⟨a, u, f0, f1, b0, b1, l0, l1⟩ = 0 by rw [eqS_iff, decide_eq_true_eq] at hz; rw [hz]; exact errS_z)
    clear hz
    go_enter Tryd.func12, Tryd.ntmps12
    go_wp2
    go_ret
    exact ⟨by rw [Hs.out]; rfl, below_box _ _⟩
end Go.Proofs.YtokjjeekkfefmaaDoor.Sty
