/-
  What the rows' list gives: the table of marks lies in block 0; a world for the witnesses.
-/
import Derived.Test.YtciklknbllblmaaDoorCards
import Derived.Test.YtciklknbllblmaaDoorTie
import Derived.Test.YtciklknbllblmaaDoorUtfM
import Derived.WalkKit
import Derived.ProofKit
import Derived.OpenShut
import Derived.Deep.DeepHandedRow
import Derived.Lib.LaidTab
namespace Go.Proofs.YtciklknbllblmaaDoor.Utf
open Go.ChangeShapes Go.WideShapes Go.ChangeAt Go.RowKit

theorem own : ownKnob Tryd.prog.godebug = none := by kernel_rfl
theorem laidOut : laidOutB Tryd.prog = true := by kernel_rfl
theorem gMarks : Tryd.prog.globalNamed "fenestra/utf.marks" = some 0 := by kernel_rfl
theorem gMarksType : (Tryd.prog.globals[0]?).map (·.type) = some 49 := by kernel_rfl
theorem cellsA : Tryd.prog.cellsOf 49 = 5 := by kernel_rfl
theorem cellsI : Tryd.prog.cellsOf 3 = 1 := by kernel_rfl
theorem cellsU : Tryd.prog.cellsOf 5 = 1 := by kernel_rfl

theorem marks_of {W : World} (h : laidMetH Tryd.prog [("fenestra/utf.marks", Rows.laid_fenestra_utf_marks)] W) : Mk W := by
  have ht : Lib.TabIs Tryd.prog W "fenestra/utf.marks" .i64 [0, 0, 192, 224, 240] :=
    Lib.tabIs_of_head (rest := []) gMarks gMarksType Tryd.underlying49 Tryd.underlying3 cellsI cellsA h
  have c0 : W.cell? ⟨0, 0, none⟩ = some (.int .i64 0) := ht.cell gMarks 0 (by decide)
  have c1 : W.cell? ⟨0, 1, none⟩ = some (.int .i64 0) := ht.cell gMarks 1 (by decide)
  have c2 : W.cell? ⟨0, 2, none⟩ = some (.int .i64 192) := ht.cell gMarks 2 (by decide)
  have c3 : W.cell? ⟨0, 3, none⟩ = some (.int .i64 224) := ht.cell gMarks 3 (by decide)
  have c4 : W.cell? ⟨0, 4, none⟩ = some (.int .i64 240) := ht.cell gMarks 4 (by decide)
  refine ⟨World.block_lt_of_cell? W ⟨0, 0, none⟩ c0, fun n hn => ?_⟩
  rcases (show n = 0 ∨ n = 1 ∨ n = 2 ∨ n = 3 ∨ n = 4 by omega) with rfl | rfl | rfl | rfl | rfl
  · exact c0
  · exact c1
  · exact c2
  · exact c3
  · exact c4

/-- a world for the witnesses: the settled one, block 0 holding what its initialiser lays -/
noncomputable def laidWorld (os : Os) : World :=
  { World.holding Tryd.prog os ⟨#[], #[], []⟩ with heap := (World.holding Tryd.prog os ⟨#[], #[], []⟩).heap.modify 0 fun
      | .cells _ t frozen => .cells #[.int .i64 0, .int .i64 0, .int .i64 192, .int .i64 224, .int .i64 240] t frozen
      | o => o }
end Go.Proofs.YtciklknbllblmaaDoor.Utf
