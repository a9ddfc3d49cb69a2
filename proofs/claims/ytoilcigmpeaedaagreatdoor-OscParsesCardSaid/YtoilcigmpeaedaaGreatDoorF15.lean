/-
  ColA
-/
import Derived.WalkKit
import Derived.WalkLawsBesides
import Derived.WalkSpells
import Derived.Laws.BitsAllLaws
import Derived.Deep.QuietTactic
import Derived.BigQuiet
import Derived.IntWalk
import Derived.Deep.MidRow
import Derived.Test.YtoilcigmpeaedaaGreatDoorProg
import Derived.Test.YtoilcigmpeaedaaGreatDoorF0
import Derived.Test.YtoilcigmpeaedaaGreatDoorF1
namespace Go.Proofs.YtoilcigmpeaedaaGreatDoor.Col
open Go.RowKit Utf

/-- the tables lie in the blocks of their variables -/
def Tc (w : World) : Prop := (0 < w.heap.size ∧ w.rangeAt 0 0 (cI limT)) ∧ (1 < w.heap.size ∧ w.rangeAt 1 0 (cI basT)) ∧ (2 < w.heap.size ∧ w.rangeAt 2 0 (cI levT))
theorem range_below {w w' : World} {b : Nat} {cs : List Value} {B : Nat} (h : w.rangeAt b 0 cs) (hb : Below B w w') (hl : b < B) : w'.rangeAt b 0 cs := fun j u hu => (hb.cell (p := ⟨b, 0 + j, none⟩) hl).trans (h j u hu)
theorem Tc.keep {w w' : World} (h : Tc w) (hb : Below w.heap.size w w') : Tc w' := by
  obtain ⟨⟨l1, k1⟩, ⟨l2, k2⟩, ⟨l3, k3⟩⟩ := h
  exact ⟨⟨Nat.lt_of_lt_of_le l1 hb.size, range_below k1 hb l1⟩, ⟨Nat.lt_of_lt_of_le l2 hb.size, range_below k2 hb l2⟩, ⟨Nat.lt_of_lt_of_le l3 hb.size, range_below k3 hb l3⟩⟩
theorem Tc.lim {w : World} (h : Tc w) (k : Nat) (z : Int) (hz : limT[k]? = some z) : w.cell? ⟨0, k, none⟩ = some (.int .i64 z) := by
  have := h.1.2 k _ (cI_at limT k z hz)
  rwa [Nat.zero_add] at this
theorem Tc.bas {w : World} (h : Tc w) (k : Nat) (z : Int) (hz : basT[k]? = some z) : w.cell? ⟨1, k, none⟩ = some (.int .i64 z) := by
  have := h.2.1.2 k _ (cI_at basT k z hz)
  rwa [Nat.zero_add] at this
theorem Tc.lev {w : World} (h : Tc w) (k : Nat) (z : Int) (hz : levT[k]? = some z) : w.cell? ⟨2, k, none⟩ = some (.int .i64 z) := by
  have := h.2.2.2 k _ (cI_at levT k z hz)
  rwa [Nat.zero_add] at this
/-- a color as a value -/
def colV (k n : Int) : Value := .agg #[.int .i64 k, .int .i64 n]

theorem errC_no (k n : Int) (h : ¬ ((k = 0 ∧ n = 0) ∨ (k = 1 ∧ 0 ≤ n ∧ n ≤ 255) ∨ (k = 2 ∧ 0 ≤ n ∧ n ≤ 16777215))) : errC k n = 130 := by
  rw [errC, okC, decide_eq_false h]; rfl
theorem errC_ok (k n : Int) (h : (k = 0 ∧ n = 0) ∨ (k = 1 ∧ 0 ≤ n ∧ n ≤ 255) ∨ (k = 2 ∧ 0 ≤ n ∧ n ≤ 16777215)) : errC k n = 0 := by
  rw [errC, okC, decide_eq_true h]; rfl
theorem below_box (w : World) (o : Obj) : Below w.heap.size w (w.alloc o) := (Below.refl _ w).alloc (Nat.le_refl _) _

set_option maxRecDepth 100000 in
set_option maxHeartbeats 2000000 in
theorem check_any (k n : Int) (w : World) (h : Tc w) : Calls Tryz.prog 50 #[colV k n] w fun e w' => e = .returned (.int .i64 (errC k n)) ∧ Below w.heap.size w w' := by
  have l0 := h.lim 0 0 rfl
  have l1 := h.lim 1 255 rfl
  have l2 := h.lim 2 16777215 rfl
  have hlt := h.1.1
  clear h
  unfold colV
  by_cases k0 : k < 0
  · have hf := Lib.hid (errC_no k n (by omega))
    go_enter Tryz.func50, Tryz.ntmps50
    go_wp2_with fail
    go_quiet (fail)
    go_wp2
    go_ret
    exact ⟨by rw [hf.out]; rfl, below_drewN' (below_box _ _) _⟩
  · by_cases k3 : 3 ≤ k
    · have hf := Lib.hid (errC_no k n (by omega))
      go_enter Tryz.func50, Tryz.ntmps50
      go_wp2_with fail
      go_quiet (fail)
      go_wp2
      go_ret
      exact ⟨by rw [hf.out]; rfl, below_drewN' (below_box _ _) _⟩
    · by_cases n0 : n < 0
      · have hf := Lib.hid (errC_no k n (by omega))
        go_enter Tryz.func50, Tryz.ntmps50
        go_wp2_with fail
        go_quiet (fail)
        go_wp2
        go_ret
        exact ⟨by rw [hf.out]; rfl, below_drewN' (below_box _ _) _⟩
      · rcases (show k = 0 ∨ k = 1 ∨ k = 2 by omega) with rfl | rfl | rfl
        · by_cases n1 : 0 < n
          · have hf := Lib.hid (errC_no 0 n (by omega))
            go_enter Tryz.func50, Tryz.ntmps50
            go_wp2_with fail
            go_quiet (fail)
            go_wp2
            go_ret
            exact ⟨by rw [hf.out]; rfl, below_drewN' (below_box _ _) _⟩
          · have hf := Lib.hid (errC_ok 0 n (by omega))
            go_enter Tryz.func50, Tryz.ntmps50
            go_wp2_with fail
            go_quiet (fail)
            go_wp2
            go_ret
            exact ⟨by rw [hf.out]; rfl, below_drewN' (below_box _ _) _⟩
        · by_cases n1 : 255 < n
          · have hf := Lib.hid (errC_no 1 n (by omega))
            go_enter Tryz.func50, Tryz.ntmps50
            go_wp2_with fail
            go_quiet (fail)
            go_wp2
            go_ret
            exact ⟨by rw [hf.out]; rfl, below_drewN' (below_box _ _) _⟩
          · have hf := Lib.hid (errC_ok 1 n (by omega))
            go_enter Tryz.func50, Tryz.ntmps50
            go_wp2_with fail
            go_quiet (fail)
            go_wp2
            go_ret
            exact ⟨by rw [hf.out]; rfl, below_drewN' (below_box _ _) _⟩
        · by_cases n1 : 16777215 < n
          · have hf := Lib.hid (errC_no 2 n (by omega))
            have d1 : decide (n > 16777215) = true := decide_eq_true n1
            go_enter Tryz.func50, Tryz.ntmps50
            go_wp2_with fail
            go_quiet (fail)
            go_wp2
            go_ret
            exact ⟨by rw [hf.out]; rfl, below_drewN' (below_box _ _) _⟩
          · have hf := Lib.hid (errC_ok 2 n (by omega))
            have d1 : decide (n > 16777215) = false := decide_eq_false n1
            go_enter Tryz.func50, Tryz.ntmps50
            go_wp2_with fail
            go_quiet (fail)
            go_wp2
            go_ret
            exact ⟨by rw [hf.out]; rfl, below_drewN' (below_box _ _) _⟩
end Go.Proofs.YtoilcigmpeaedaaGreatDoor.Col
