/-
  StyA
-/
import Derived.WalkKit
import Derived.WalkLawsBesides
import Derived.WalkSpells
import Derived.Laws.BitsAllLaws
import Derived.Deep.QuietTactic
import Derived.BigQuiet
import Derived.IntWalk
import Derived.Deep.MidRow
import Derived.Test.YteepfecplabinaaDoorProg
import Derived.Test.YteepfecplabinaaDoorP1
import Derived.Test.YteepfecplabinaaDoorP3
namespace Go.Proofs.YteepfecplabinaaDoor.Sty
open Go.RowKit Utf Col

/-- the table lies in the block of its variable -/
def Tl (w : World) : Prop := 2 < w.heap.size ∧ w.rangeAt 2 0 (cI limT)
theorem range_below {w w' : World} {b : Nat} {cs : List Value} {B : Nat} (h : w.rangeAt b 0 cs) (hb : Below B w w') (hl : b < B) : w'.rangeAt b 0 cs := fun j u hu => (hb.cell (p := ⟨b, 0 + j, none⟩) hl).trans (h j u hu)
theorem Tl.keep {w w' : World} (h : Tl w) (hb : Below w.heap.size w w') : Tl w' := ⟨Nat.lt_of_lt_of_le h.1 hb.size, range_below h.2 hb h.1⟩
theorem Tl.lim {w : World} (h : Tl w) (k : Nat) (z : Int) (hz : limT[k]? = some z) : w.cell? ⟨2, k, none⟩ = some (.int .i64 z) := by
  have := h.2 k _ (cI_at limT k z hz)
  rwa [Nat.zero_add] at this
/-- a color as a value -/
def colV (k n : Int) : Value := .agg #[.int .i64 k, .int .i64 n]

theorem errC_no (k n : Int) (h : ¬ ((k = 0 ∧ n = 0) ∨ (k = 1 ∧ 0 ≤ n ∧ n ≤ 255) ∨ (k = 2 ∧ 0 ≤ n ∧ n ≤ 16777215))) : errC k n = 130 := by
  rw [errC, okC, decide_eq_false h]; rfl
theorem errC_ok (k n : Int) (h : (k = 0 ∧ n = 0) ∨ (k = 1 ∧ 0 ≤ n ∧ n ≤ 255) ∨ (k = 2 ∧ 0 ≤ n ∧ n ≤ 16777215)) : errC k n = 0 := by
  rw [errC, okC, decide_eq_true h]; rfl
theorem below_box (w : World) (o : Obj) : Below w.heap.size w (w.alloc o) := (Below.refl _ w).alloc (Nat.le_refl _) _

set_option maxRecDepth 100000 in
set_option maxHeartbeats 2000000 in
theorem ccheck_any (k n : Int) (w : World) (h : Tl w) : Calls Tryd.prog 80 #[colV k n] w fun e w' => e = .returned (.int .i64 (errC k n)) ∧ Below w.heap.size w w' := by
  have l0 := h.lim 0 0 rfl
  have l1 := h.lim 1 255 rfl
  have l2 := h.lim 2 16777215 rfl
  have hlt := h.1
  clear h
  unfold colV
  by_cases k0 : k < 0
  · have hf := Lib.hid (errC_no k n (by omega))
    go_enter Tryd.func80, Tryd.ntmps80
    go_wp2_with fail
    go_quiet (fail)
    go_wp2
    go_ret
    exact ⟨by rw [hf.out]; rfl, below_drewN' (below_box _ _) _⟩
  · by_cases k3 : 3 ≤ k
    · have hf := Lib.hid (errC_no k n (by omega))
      go_enter Tryd.func80, Tryd.ntmps80
      go_wp2_with fail
      go_quiet (fail)
      go_wp2
      go_ret
      exact ⟨by rw [hf.out]; rfl, below_drewN' (below_box _ _) _⟩
    · by_cases n0 : n < 0
      · have hf := Lib.hid (errC_no k n (by omega))
        go_enter Tryd.func80, Tryd.ntmps80
        go_wp2_with fail
        go_quiet (fail)
        go_wp2
        go_ret
        exact ⟨by rw [hf.out]; rfl, below_drewN' (below_box _ _) _⟩
      · rcases (show k = 0 ∨ k = 1 ∨ k = 2 by omega) with rfl | rfl | rfl
        · by_cases n1 : 0 < n
          · have hf := Lib.hid (errC_no 0 n (by omega))
            go_enter Tryd.func80, Tryd.ntmps80
            go_wp2_with fail
            go_quiet (fail)
            go_wp2
            go_ret
            exact ⟨by rw [hf.out]; rfl, below_drewN' (below_box _ _) _⟩
          · have hf := Lib.hid (errC_ok 0 n (by omega))
            go_enter Tryd.func80, Tryd.ntmps80
            go_wp2_with fail
            go_quiet (fail)
            go_wp2
            go_ret
            exact ⟨by rw [hf.out]; rfl, below_drewN' (below_box _ _) _⟩
        · by_cases n1 : 255 < n
          · have hf := Lib.hid (errC_no 1 n (by omega))
            go_enter Tryd.func80, Tryd.ntmps80
            go_wp2_with fail
            go_quiet (fail)
            go_wp2
            go_ret
            exact ⟨by rw [hf.out]; rfl, below_drewN' (below_box _ _) _⟩
          · have hf := Lib.hid (errC_ok 1 n (by omega))
            go_enter Tryd.func80, Tryd.ntmps80
            go_wp2_with fail
            go_quiet (fail)
            go_wp2
            go_ret
            exact ⟨by rw [hf.out]; rfl, below_drewN' (below_box _ _) _⟩
        · by_cases n1 : 16777215 < n
          · have hf := Lib.hid (errC_no 2 n (by omega))
            have d1 : decide (n > 16777215) = true := decide_eq_true n1
            go_enter Tryd.func80, Tryd.ntmps80
            go_wp2_with fail
            go_quiet (fail)
            go_wp2
            go_ret
            exact ⟨by rw [hf.out]; rfl, below_drewN' (below_box _ _) _⟩
          · have hf := Lib.hid (errC_ok 2 n (by omega))
            have d1 : decide (n > 16777215) = false := decide_eq_false n1
            go_enter Tryd.func80, Tryd.ntmps80
            go_wp2_with fail
            go_quiet (fail)
            go_wp2
            go_ret
            exact ⟨by rw [hf.out]; rfl, below_drewN' (below_box _ _) _⟩
set_option maxRecDepth 100000 in
set_option maxHeartbeats 2000000 in
theorem rccheck_any (k n : Int) (w : World) : Calls Tryd.prog 64 #[colV k n] w fun e w' => e = .returned (.int .i64 (errC k n)) ∧ Below w.heap.size w w' := by
  unfold colV
  by_cases k0 : k = 0
  · subst k0
    by_cases n0 : n = 0
    · subst n0
      have hf := Lib.hid (errC_ok 0 0 (by omega))
      go_enter Tryd.func64, Tryd.ntmps64
      go_wp2
      go_ret
      exact ⟨by rw [hf.out]; rfl, below_box _ _⟩
    · have hf := Lib.hid (errC_no 0 n (by omega))
      have d0 : (n == 0) = false := by simp [n0]
      go_enter Tryd.func64, Tryd.ntmps64
      go_wp2
      go_ret
      exact ⟨by rw [hf.out]; rfl, below_box _ _⟩
  · have d0 : (k == 0) = false := by simp [k0]
    by_cases k1 : k = 1
    · subst k1
      by_cases n0 : 0 ≤ n
      · by_cases n1 : n ≤ 255
        · have hf := Lib.hid (errC_ok 1 n (by omega))
          go_enter Tryd.func64, Tryd.ntmps64
          go_wp2
          go_ret
          exact ⟨by rw [hf.out]; rfl, below_box _ _⟩
        · have hf := Lib.hid (errC_no 1 n (by omega))
          have n1 : 255 < n := by omega
          go_enter Tryd.func64, Tryd.ntmps64
          go_wp2
          go_ret
          exact ⟨by rw [hf.out]; rfl, below_box _ _⟩
      · have hf := Lib.hid (errC_no 1 n (by omega))
        have n1 : n < 0 := by omega
        go_enter Tryd.func64, Tryd.ntmps64
        go_wp2
        go_ret
        exact ⟨by rw [hf.out]; rfl, below_box _ _⟩
    · have d1 : (k == 1) = false := by simp [k1]
      by_cases k2 : k = 2
      · subst k2
        by_cases n0 : 0 ≤ n
        · by_cases n1 : n ≤ 16777215
          · have hf := Lib.hid (errC_ok 2 n (by omega))
            have e1 : decide (n ≤ 16777215) = true := decide_eq_true n1
            go_enter Tryd.func64, Tryd.ntmps64
            go_wp2
            go_ret
            exact ⟨by rw [hf.out]; rfl, below_box _ _⟩
          · have hf := Lib.hid (errC_no 2 n (by omega))
            have e1 : decide (n ≤ 16777215) = false := decide_eq_false n1
            clear n1
            go_enter Tryd.func64, Tryd.ntmps64
            go_wp2
            go_ret
            exact ⟨by rw [hf.out]; rfl, below_box _ _⟩
        · have hf := Lib.hid (errC_no 2 n (by omega))
          have n1 : n < 0 := by omega
          go_enter Tryd.func64, Tryd.ntmps64
          go_wp2
          go_ret
          exact ⟨by rw [hf.out]; rfl, below_box _ _⟩
      · have d2 : (k == 2) = false := by simp [k2]
        have hf := Lib.hid (errC_no k n (by omega))
        go_enter Tryd.func64, Tryd.ntmps64
        go_wp2
        go_ret
        exact ⟨by rw [hf.out]; rfl, below_box _ _⟩

end Go.Proofs.YteepfecplabinaaDoor.Sty
