/-
  What the rows' list gives: the three tables lie in the blocks of their variables; a world for the witnesses.
-/
import Derived.Test.YtddgigiajenmkaaDoorCards
import Derived.Test.YtddgigiajenmkaaDoorTie
import Derived.Test.YtddgigiajenmkaaDoorColA
import Derived.WalkKit
import Derived.ProofKit
import Derived.OpenShut
import Derived.Deep.DeepHandedRow
import Derived.Lib.LaidTab
import Derived.Lib.LaidU8
namespace Go.Proofs.YtddgigiajenmkaaDoor.Col
open Go.ChangeShapes Go.WideShapes Go.ChangeAt Go.RowKit Utf

theorem own : ownKnob Tryd.prog.godebug = none := by kernel_rfl
theorem laidOut : laidOutB Tryd.prog = true := by kernel_rfl
theorem gL : Tryd.prog.globalNamed "fenestra/color.limits" = some 0 := by kernel_rfl
theorem gLType : (Tryd.prog.globals[0]?).map (·.type) = some 56 := by kernel_rfl
theorem gB : Tryd.prog.globalNamed "fenestra/color.basics" = some 1 := by kernel_rfl
theorem gBType : (Tryd.prog.globals[1]?).map (·.type) = some 57 := by kernel_rfl
theorem gV : Tryd.prog.globalNamed "fenestra/color.levels" = some 2 := by kernel_rfl
theorem gVType : (Tryd.prog.globals[2]?).map (·.type) = some 55 := by kernel_rfl
theorem cells3 : Tryd.prog.cellsOf 56 = 3 := by kernel_rfl
theorem cells16 : Tryd.prog.cellsOf 57 = 16 := by kernel_rfl
theorem cells6 : Tryd.prog.cellsOf 55 = 6 := by kernel_rfl
theorem cellsC : Tryd.prog.cellsOf 23 = 2 := by kernel_rfl
theorem cellsI : Tryd.prog.cellsOf 3 = 1 := by kernel_rfl

theorem range_of {W : World} {name : String} {g t n : Nat} (zs : List Int) (hg : Tryd.prog.globalNamed name = some g) (hty : (Tryd.prog.globals[g]?).map (·.type) = some t) (ht : Tryd.prog.underlying t = some (.array n 3)) (hct : Tryd.prog.cellsOf t = n) (h0 : 0 < zs.length)
    (h : Lib.VarReads Tryd.prog W name (Lib.tabData .i64 zs)) : g < W.heap.size ∧ W.rangeAt g 0 (cI zs) := by
  obtain ⟨g', t', cs, fuel, p, hg', ht', hvar, hd⟩ := h
  obtain rfl := Option.some.inj (hg.symm.trans hg')
  obtain rfl := Option.some.inj (hty.symm.trans ht')
  have hc : cs.toList = cI zs := Lib.cells_of_tab ht Tryd.underlying3 cellsI hct hd
  have hr : W.rangeAt g 0 (cI zs) := fun j u hu => by
    rw [Nat.zero_add, World.var?_cell hg hvar j]
    rw [← hc] at hu
    simpa using hu
  refine ⟨?_, hr⟩
  exact World.block_lt_of_cell? W _ (hr 0 _ (cI_at zs 0 zs[0] (List.getElem?_eq_getElem h0)))

theorem marks_of {W : World} (h : laidMetH Tryd.prog [("fenestra/color.limits", Rows.laid_fenestra_color_limits), ("fenestra/color.basics", Rows.laid_fenestra_color_basics), ("fenestra/color.levels", Rows.laid_fenestra_color_levels)] W) : Tc W := by
  have h' : laidMet Tryd.prog [("fenestra/color.limits", Lib.tabData .i64 limT), ("fenestra/color.basics", Lib.tabData .i64 basT), ("fenestra/color.levels", Lib.tabData .i64 levT)] W := h
  refine ⟨?_, ?_, ?_⟩
  · exact range_of limT gL gLType Tryd.underlying56 cells3 (by decide) (Lib.laidMet.reads h' (by simp))
  · exact range_of basT gB gBType Tryd.underlying57 cells16 (by decide) (Lib.laidMet.reads h' (by simp))
  · exact range_of levT gV gVType Tryd.underlying55 cells6 (by decide) (Lib.laidMet.reads h' (by simp))
theorem u8_wf {z : Int} (h : (Lit.int .u8 z).wf = true) : ∃ b : UInt8, z = (b.toNat : Int) := by
  have hb : 0 ≤ z ∧ z ≤ 255 := bounds_u8 h
  exact ⟨UInt8.ofNat z.toNat, by rw [UInt8.toNat_ofNat']; omega⟩

def setO (cs : Array Value) : Obj → Obj
  | .cells _ t frozen => .cells cs t frozen
  | o => o
/-- a world for the witnesses: the settled one, the blocks of the three variables holding what their initialisers lay -/
noncomputable def laidWorld (os : Os) : World :=
  { World.holding Tryd.prog os ⟨#[], #[], []⟩ with heap := (((World.holding Tryd.prog os ⟨#[], #[], []⟩).heap.modify 0 (setO (cI limT).toArray)).modify 1 (setO (cI basT).toArray)).modify 2 (setO (cI levT).toArray) }
end Go.Proofs.YtddgigiajenmkaaDoor.Col
