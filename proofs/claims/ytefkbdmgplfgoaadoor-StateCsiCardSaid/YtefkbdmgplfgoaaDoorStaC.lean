/-
  Contracts of the reference's begin, spoilt, told, escape, signed, Empty.
-/
import Derived.Test.YtefkbdmgplfgoaaDoorStaB
import Derived.Test.YtefkbdmgplfgoaaDoorParC
import Derived.Laws.ResultCell
import Derived.Deep.RegionWith
import Derived.Deep.RegionHeld3
import Derived.Deep.DeepCutAuto
namespace Go.Proofs.YtefkbdmgplfgoaaDoor.Sta
open Go.RowKit Utf Par

theorem ret_cell1 {P : Program} {fn : Func} {p : Tmp} {ty : TypeId} (h : fn.results = #[.cell p ty]) (tmps : Array Value) (w : World) (a : Addr) (v : Value) (ha : tmps.getD p undef = .pointer (some a)) (hl : (loadVar ty a).run P w = .ok v w) :
    (results fn tmps).run P w = .ok v w := by
  have ha' : tmps[p]?.getD undef = .pointer (some a) := by simpa using ha
  simp only [results, h]
  simp [ha', asAddr, hl]
/-- a parse's cells as a list -/
def cL (p : PS) (u q : Value) : List Value := [.int .i64 p.st, u, .int .u8 (p.pr.toNat : Int), .int .u8 (p.fi.toNat : Int), q, .string p.it, .string p.tx, .bool p.bad]
theorem load_par8 (w : World) (b : Nat) (x0 x1 x2 x3 x4 x5 x6 x7 : Value) (h : Box w b [x0, x1, x2, x3, x4, x5, x6, x7]) : (loadVar 26 ⟨b, 0, none⟩).run Tryd.prog w = .ok (.agg #[x0, x1, x2, x3, x4, x5, x6, x7]) w :=
  (run_loadVar_mid w b 0 26 [x0, x1, x2, x3, x4, x5, x6, x7] _ h.2.1 Tryd.underlying26 rfl (by kernel_rfl)).trans rfl
/-- a world in which the slices of a call's results read as at its end: nothing below w0 has changed, nor what the call made -/
def Agr (w0 w w' W : World) : Prop := Below w0.heap.size w0 W ∧ ∀ k, w.heap.size ≤ k → k < w'.heap.size → W.heap[k]? = w'.heap[k]?
/-- what a call returns that hands back a parse and events; w0: where its arguments' slices are read -/
def Ret2 (r : PS × List EV) (w0 w : World) (e : Ending) (w' : World) : Prop := ∃ u q v, e = .returned (.tuple #[.agg (cS r.1 u q), v]) ∧ (∀ W, Agr w0 w w' W → RS W u q r.1 ∧ RV W v r.2) ∧ Below w.heap.size w w'
def sz0 (s : ByteArray) : Bool := decide (s.size = 0)
theorem nil_list : (⟨#[]⟩ : ByteArray).toList = [] := by rw [ByteArray.toList_eq]
theorem str_nil (s : ByteArray) : s.toList = [] ↔ s.size = 0 := by
  rw [ByteArray.toList_eq]
  constructor
  · intro h
    have : s.data.toList.length = s.size := by simp
    rw [h] at this
    exact this.symm
  · intro h
    have : s.data.toList.length = s.size := by simp
    exact List.eq_nil_of_length_eq_zero (by omega)
theorem str_eq0 (s : ByteArray) : (s.toList == (⟨#[]⟩ : ByteArray).toList) = sz0 s := by
  unfold sz0
  rw [nil_list]
  by_cases h : s.size = 0
  · rw [(str_nil s).2 h, decide_eq_true h]; rfl
  · rw [decide_eq_false h]
    cases hs : s.toList with
    | nil => exact absurd ((str_nil s).1 hs) h
    | cons a l => rfl
end Go.Proofs.YtefkbdmgplfgoaaDoor.Sta
