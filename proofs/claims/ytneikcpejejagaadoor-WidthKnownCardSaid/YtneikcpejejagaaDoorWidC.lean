/-
  Contracts of the width package's adder and of the closure that it returns: each call adds the width of its number to the sum, and answers the sum so far.
-/
import Derived.Test.YtneikcpejejagaaDoorWidB
import Derived.Deep.RegionHeld3
import Derived.Deep.RegionWith
import Derived.IntWalk
namespace Go.Proofs.YtneikcpejejagaaDoor.Wid
open Go.RowKit Utf

theorem adder_any (w : World) : Calls Tryd.prog 24 #[] w fun e w' => e = .returned (.func (.func 30) #[] #[.pointer (some ⟨w.heap.size, 0, none⟩)]) ∧ w' = w.alloc (.cells #[.int .i64 0] 3) := by
  go_enter Tryd.func24, Tryd.ntmps24
  go_wp2
  go_ret
  exact ⟨rfl, rfl⟩

/-- a world that is as it was but for new blocks and the cell of one box -/
def AddPost (w : World) (B : Nat) (v : Int) (e : Ending) (w' : World) : Prop :=
  e = .returned (.int .i64 v) ∧ ∃ w1, Below w.heap.size w w1 ∧ w' = w1.setCell ⟨B, 0, none⟩ (.int .i64 v)

set_option maxRecDepth 100000 in
set_option maxHeartbeats 2000000 in
theorem adder1_any (c t : Int) (B : Nat) (w : World) (h : Tb w) (hB : w.cell? ⟨B, 0, none⟩ = some (.int .i64 t)) (hf : w.frozen? ⟨B, 0, none⟩ = false) (hlt : B < w.heap.size) (ht : 0 ≤ t) (ht2 : t ≤ 1000000000) :
    Calls Tryd.prog 30 #[.int .i64 c, .pointer (some ⟨B, 0, none⟩)] w (AddPost w B (t + wp c)) := by
  have hD : Below w.heap.size w w.drew := (Below.refl _ w).drew
  have H := Lib.hid (h.keep hD); clear h
  have hw := wp_bd c
  have hwi := wid_bd c
  have Hx := Lib.hid (show (if wid c < 0 then 0 else wid c) = wp c by unfold wp; split <;> omega)
  have Hw := Lib.hid (show IntKind.i64.wrap (t + wp c) = t + wp c from IntWalk.i64_in _ (by omega))
  go_enter Tryd.func30, Tryd.ntmps30
  go_wp2_with fail
  go_region_with (go_at_call 8; refine (of_any _ _ H.out).mono ?_; rintro e w1 ⟨rfl, hb1⟩; have hc1 : w1.cell? ⟨B, 0, none⟩ = some (.int .i64 t) := (hb1.cell (p := ⟨B, 0, none⟩) hlt).trans hB; have hf1 : w1.frozen? ⟨B, 0, none⟩ = false := (hb1.frozen (p := ⟨B, 0, none⟩) hlt).trans hf)
  all_goals
    rw [Hx.out, Hw.out]
    go_wp2
    go_ret
    exact ⟨rfl, w1, hD.trans hb1, rfl⟩
end Go.Proofs.YtneikcpejejagaaDoor.Wid
