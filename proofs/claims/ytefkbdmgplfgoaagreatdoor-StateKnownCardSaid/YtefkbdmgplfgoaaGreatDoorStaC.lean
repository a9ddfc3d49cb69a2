/-
  Contracts of the reference's begin, spoilt, told, escape, signed, Empty.
-/
import Derived.Test.YtefkbdmgplfgoaaGreatDoorStaB
import Derived.Test.YtefkbdmgplfgoaaGreatDoorParC
import Derived.Laws.ResultCell
import Derived.Deep.RegionWith
import Derived.Deep.RegionHeld3
import Derived.Deep.DeepCutAuto
namespace Go.Proofs.YtefkbdmgplfgoaaGreatDoor.Sta
open Go.RowKit Utf Par

theorem ret_cell1 {P : Program} {fn : Func} {p : Tmp} {ty : TypeId} (h : fn.results = #[.cell p ty]) (tmps : Array Value) (w : World) (a : Addr) (v : Value) (ha : tmps.getD p undef = .pointer (some a)) (hl : (loadVar ty a).run P w = .ok v w) :
    (results fn tmps).run P w = .ok v w := by
  have ha' : tmps[p]?.getD undef = .pointer (some a) := by simpa using ha
  simp only [results, h]
  simp [ha', asAddr, hl]
/-- a parse's cells as a list -/
def cL (p : PS) (u q : Value) : List Value := [.int .i64 p.st, u, .int .u8 (p.pr.toNat : Int), .int .u8 (p.fi.toNat : Int), q, .string p.it, .string p.tx, .bool p.bad]
theorem load_par8 (w : World) (b : Nat) (x0 x1 x2 x3 x4 x5 x6 x7 : Value) (h : Box w b [x0, x1, x2, x3, x4, x5, x6, x7]) : (loadVar 25 ⟨b, 0, none⟩).run Tryz.prog w = .ok (.agg #[x0, x1, x2, x3, x4, x5, x6, x7]) w :=
  (run_loadVar_mid w b 0 25 [x0, x1, x2, x3, x4, x5, x6, x7] _ h.2.1 Tryz.underlying25 rfl (by kernel_rfl)).trans rfl
theorem begin_any (n : Int) (w : World) : Calls Tryz.prog 60 #[.int .i64 n] w fun e w' => e = .returned (.agg #[.int .i64 n, .slice none 0 0, .int .u8 0, .int .u8 0, .slice none 0 0, .string ⟨#[]⟩, .string ⟨#[]⟩, .bool false]) ∧ Below w.heap.size w w' := by
  go_enter Tryz.func60, Tryz.ntmps60
  go_wp2
  refine bodyPost_ret (ret_cell1 rfl _ _ ⟨w.heap.size, 0, none⟩ _ rfl (load_par8 _ _ _ _ _ _ _ _ _ _ (Box.new _ _ _))) rfl ?_
  exact ⟨rfl, below_box _ _⟩
theorem spoilt_any (n : Int) (w : World) : Calls Tryz.prog 85 #[.int .i64 n] w fun e w' => e = .returned (.agg #[.int .i64 n, .slice none 0 0, .int .u8 0, .int .u8 0, .slice none 0 0, .string ⟨#[]⟩, .string ⟨#[]⟩, .bool true]) ∧ Below w.heap.size w w' := by
  go_enter Tryz.func85, Tryz.ntmps85
  go_wp2
  refine bodyPost_ret (ret_cell1 rfl _ _ ⟨w.heap.size, 0, none⟩ _ rfl (load_par8 _ _ _ _ _ _ _ _ _ _ (Box.new _ _ _))) rfl ?_
  exact ⟨rfl, below_box _ _⟩
/-- a world in which the slices of a call's results read as at its end: nothing below w0 has changed, nor what the call made -/
def Agr (w0 w w' W : World) : Prop := Below w0.heap.size w0 W ∧ ∀ k, w.heap.size ≤ k → k < w'.heap.size → W.heap[k]? = w'.heap[k]?
/-- what a call returns that hands back a parse and events; w0: where its arguments' slices are read -/
def Ret2 (r : PS × List EV) (w0 w : World) (e : Ending) (w' : World) : Prop := ∃ u q v, e = .returned (.tuple #[.agg (cS r.1 u q), v]) ∧ (∀ W, Agr w0 w w' W → RS W u q r.1 ∧ RV W v r.2) ∧ Below w.heap.size w w'
def sz0 (s : ByteArray) : Bool := decide (s.size = 0)
theorem nil_list : (⟨#[]⟩ : ByteArray).toList = [] := by rw [ByteArray.toList_eq]
theorem str_nil (s : ByteArray) : s.toList = [] ↔ s.size = 0 := by
  rw [ByteArray.toList_eq]
  constructor
  · intro h
    have : s.data.toList.length = s.size := by simp
    rw [h] at this
    exact this.symm
  · intro h
    have : s.data.toList.length = s.size := by simp
    exact List.eq_nil_of_length_eq_zero (by omega)
theorem str_eq0 (s : ByteArray) : (s.toList == (⟨#[]⟩ : ByteArray).toList) = sz0 s := by
  unfold sz0
  rw [nil_list]
  by_cases h : s.size = 0
  · rw [(str_nil s).2 h, decide_eq_true h]; rfl
  · rw [decide_eq_false h]
    cases hs : s.toList with
    | nil => exact absurd ((str_nil s).1 hs) h
    | cons a l => rfl
set_option maxRecDepth 100000 in
set_option maxHeartbeats 8000000 in
theorem empty_any (p : PS) (au aq : Option Addr) (nu cu nq cq : Nat) (w : World) (h1 : nu = p.utf.length) (h2 : nq = p.ps.length) :
    Calls Tryz.prog 50 #[.agg (cS p (.slice au nu cu) (.slice aq nq cq))] w fun e w' => e = .returned (.bool (empB p)) ∧ Below w.heap.size w w' := by
  have HB := Lib.hid (show empB p = (decide (nu = 0) && decide (p.pr.toNat = 0) && decide (p.fi.toNat = 0) && decide (nq = 0) && decide (p.it.size = 0) && decide (p.tx.size = 0)) by
    unfold empB
    rw [h1, h2, show decide (p.utf = []) = decide (p.utf.length = 0) by simp, show decide (p.ps = []) = decide (p.ps.length = 0) by simp,
      show decide (p.pr = 0) = decide (p.pr.toNat = 0) from decide_eq_decide.2 ⟨fun h => by rw [h]; rfl, fun h => UInt8.toNat_inj.1 h⟩, show decide (p.fi = 0) = decide (p.fi.toNat = 0) from decide_eq_decide.2 ⟨fun h => by rw [h]; rfl, fun h => UInt8.toNat_inj.1 h⟩])
  rw [HB.out]
  clear h1 h2 HB
  obtain ⟨st, utf, pr, fi, pp, it, tx, bad⟩ := p
  unfold cS
  dsimp only
  have t1 := str_eq0 it
  have t2 := str_eq0 tx
  have n1 := str_nil it
  have n2 := str_nil tx
  unfold sz0 at t1 t2
  generalize pr.toNat = a
  generalize fi.toNat = b
  generalize it.size = c at t1 n1 ⊢
  generalize tx.size = d at t2 n2 ⊢
  go_enter Tryz.func50, Tryz.ntmps50
  go_wp2
  all_goals
    go_ret
    refine ⟨?_, below_box _ _⟩
    simp_all
end Go.Proofs.YtefkbdmgplfgoaaGreatDoor.Sta
