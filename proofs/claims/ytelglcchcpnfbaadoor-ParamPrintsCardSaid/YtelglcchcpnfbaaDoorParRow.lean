/-
  What the rows' list gives: the library's table of powers of ten lies in the block of its variable; a world for the witnesses.
-/
import Derived.Test.YtelglcchcpnfbaaDoorCards
import Derived.Test.YtelglcchcpnfbaaDoorTie
import Derived.Test.YtelglcchcpnfbaaDoorParK
import Derived.WalkKit
import Derived.ProofKit
import Derived.OpenShut
import Derived.Deep.DeepHandedRow
import Derived.Lib.LaidTab
import Derived.Lib.LaidU8
import Derived.Lib.SmallJoins
namespace Go.Proofs.YtelglcchcpnfbaaDoor.Par
open Go.ChangeShapes Go.WideShapes Go.ChangeAt Go.RowKit Utf

theorem own : ownKnob Tryd.prog.godebug = none := by kernel_rfl
theorem laidOut : laidOutB Tryd.prog = true := by kernel_rfl
theorem gP : Tryd.prog.globalNamed "internal/strconv.uint64pow10" = some 1 := by kernel_rfl
theorem gPType : (Tryd.prog.globals[1]?).map (·.type) = some 123 := by kernel_rfl
theorem cells20 : Tryd.prog.cellsOf 123 = 20 := by kernel_rfl
theorem cells64 : Tryd.prog.cellsOf 104 = 1 := by kernel_rfl
theorem tab_of {W : World} (h : laidMetH Tryd.prog [("math/bits.deBruijn32tab", Rows.laid_math_bits_deBruijn32tab), ("math/bits.deBruijn64tab", Rows.laid_math_bits_deBruijn64tab), ("internal/strconv.uint64pow10", Rows.laid_internal_strconv_uint64pow10)] W) : Tab W := by
  have h' : laidMet Tryd.prog [("math/bits.deBruijn32tab", Rows.laid_math_bits_deBruijn32tab), ("math/bits.deBruijn64tab", Rows.laid_math_bits_deBruijn64tab), ("internal/strconv.uint64pow10", Rows.laid_internal_strconv_uint64pow10)] W := h
  obtain ⟨g', t', cs, fuel, p, hg', ht', hvar, hd⟩ := Lib.laidMet.reads h' (n := "internal/strconv.uint64pow10") (d := Rows.laid_internal_strconv_uint64pow10) (by simp)
  obtain rfl := Option.some.inj (gP.symm.trans hg')
  obtain rfl := Option.some.inj (gPType.symm.trans ht')
  rw [show (Rows.laid_internal_strconv_uint64pow10 : DataW Unit) = Lib.tabData .u64 Lib.pow10Tab from rfl] at hd
  have hc := Lib.cells_of_tab Tryd.underlying123 Tryd.underlying104 cells64 cells20 hd
  refine Lib.tabBelow_of_tabIs ?_
  rw [Lib.TabIs, hvar, ← hc]
def litV : DataW Unit → Value
  | .lit (.int k z) => .int k z
  | _ => undef
def valsOf : DataW Unit → Array Value
  | .agg l => (l.map litV).toArray
  | _ => #[]
def setO (cs : Array Value) : Obj → Obj
  | .cells _ t frozen => .cells cs t frozen
  | o => o
/-- a world for the witnesses: the settled one, the blocks of the three variables holding what their initialisers lay -/
noncomputable def laidWorld (os : Os) : World :=
  { World.holding Tryd.prog os ⟨#[], #[], []⟩ with heap := (((World.holding Tryd.prog os ⟨#[], #[], []⟩).heap.modify 1 (setO (valsOf Rows.laid_internal_strconv_uint64pow10))).modify 2 (setO (valsOf Rows.laid_math_bits_deBruijn32tab))).modify 3 (setO (valsOf Rows.laid_math_bits_deBruijn64tab)) }
end Go.Proofs.YtelglcchcpnfbaaDoor.Par
