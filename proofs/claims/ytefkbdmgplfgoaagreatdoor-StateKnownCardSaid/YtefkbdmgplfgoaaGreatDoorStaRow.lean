/-
  What the rows' list gives: the tables of marks and of fields lie in the blocks of their variables; how bytes that came in are read; a world for the witnesses. What the rows' list gives in a seat that lists the two tables alone; a world for the witnesses.
-/
import Derived.Test.YtefkbdmgplfgoaaGreatDoorCards
import Derived.Test.YtefkbdmgplfgoaaGreatDoorTie
import Derived.Test.YtefkbdmgplfgoaaGreatDoorStaAj
import Derived.WalkKit
import Derived.ProofKit
import Derived.OpenShut
import Derived.Deep.DeepHandedRow
import Derived.Lib.LaidTab
import Derived.Lib.LaidU8
import Derived.Lib.SmallJoins
section
set_option maxRecDepth 100000
namespace Go.Proofs.YtefkbdmgplfgoaaGreatDoor.Sta
open Go.ChangeShapes Go.WideShapes Go.ChangeAt Go.RowKit Utf Par

theorem own : ownKnob Tryz.prog.godebug = none := by kernel_rfl
theorem laidOut : laidOutB Tryz.prog = true := by kernel_rfl
theorem gMarks : Tryz.prog.globalNamed "fenestra/utf.marks" = some 2 := by kernel_rfl
theorem gMarksType : (Tryz.prog.globals[2]?).map (·.type) = some 129 := by kernel_rfl
theorem gFields : Tryz.prog.globalNamed "fenestra/state.fields" = some 0 := by kernel_rfl
theorem gFieldsType : (Tryz.prog.globals[0]?).map (·.type) = some 82 := by kernel_rfl
theorem cells5 : Tryz.prog.cellsOf 129 = 5 := by kernel_rfl
theorem cells15 : Tryz.prog.cellsOf 82 = 15 := by kernel_rfl
theorem cellsI : Tryz.prog.cellsOf 3 = 1 := by kernel_rfl
theorem cellsU : Tryz.prog.cellsOf 5 = 1 := by kernel_rfl
theorem mk_in {W : World} {l : List (String × DataW Unit)} (h' : laidMet Tryz.prog l W) (hm : ("fenestra/utf.marks", (Rows.laid_fenestra_utf_marks : DataW Unit)) ∈ l) : Mk W := by
  obtain ⟨g', t', cs, fuel, p, hg', ht', hvar, hd⟩ := Lib.laidMet.reads h' hm
  obtain rfl := Option.some.inj (gMarks.symm.trans hg')
  obtain rfl := Option.some.inj (gMarksType.symm.trans ht')
  rw [show (Rows.laid_fenestra_utf_marks : DataW Unit) = Lib.tabData .i64 [0, 0, 192, 224, 240] from rfl] at hd
  have hc := Lib.cells_of_tab Tryz.underlying129 Tryz.underlying3 cellsI cells5 hd
  have ht : Lib.TabIs Tryz.prog W "fenestra/utf.marks" .i64 [0, 0, 192, 224, 240] := by rw [Lib.TabIs, hvar, ← hc]
  have c0 := ht.cell gMarks 0 (by decide)
  have c1 := ht.cell gMarks 1 (by decide)
  have c2 := ht.cell gMarks 2 (by decide)
  have c3 := ht.cell gMarks 3 (by decide)
  have c4 := ht.cell gMarks 4 (by decide)
  refine ⟨World.block_lt_of_cell? W ⟨2, 0, none⟩ c0, fun n hn => ?_⟩
  rcases (show n = 0 ∨ n = 1 ∨ n = 2 ∨ n = 3 ∨ n = 4 by omega) with rfl | rfl | rfl | rfl | rfl
  · exact c0
  · exact c1
  · exact c2
  · exact c3
  · exact c4
theorem fld_at (n : Nat) (hn : n < 15) : ([1, 0, 8, 0, 6, 14, 32, 32, 0, 6, 14, 62, 62, 0, 0] : List Int).getD n 0 = fld n := by
  have : ∀ n : Fin 15, ([1, 0, 8, 0, 6, 14, 32, 32, 0, 6, 14, 62, 62, 0, 0] : List Int).getD n.val 0 = fld n.val := by decide +kernel
  exact this ⟨n, hn⟩
theorem tf_in {W : World} {l : List (String × DataW Unit)} (h' : laidMet Tryz.prog l W) (hm : ("fenestra/state.fields", (Rows.laid_fenestra_state_fields : DataW Unit)) ∈ l) : Tf W := by
  obtain ⟨g', t', cs, fuel, p, hg', ht', hvar, hd⟩ := Lib.laidMet.reads h' hm
  obtain rfl := Option.some.inj (gFields.symm.trans hg')
  obtain rfl := Option.some.inj (gFieldsType.symm.trans ht')
  rw [show (Rows.laid_fenestra_state_fields : DataW Unit) = Lib.tabData .i64 [1, 0, 8, 0, 6, 14, 32, 32, 0, 6, 14, 62, 62, 0, 0] from rfl] at hd
  have hc := Lib.cells_of_tab Tryz.underlying82 Tryz.underlying3 cellsI cells15 hd
  have ht : Lib.TabIs Tryz.prog W "fenestra/state.fields" .i64 [1, 0, 8, 0, 6, 14, 32, 32, 0, 6, 14, 62, 62, 0, 0] := by rw [Lib.TabIs, hvar, ← hc]
  have hx : ∀ n : Nat, n < 15 → W.cell? ⟨0, n, none⟩ = some (.int .i64 (fld n)) := fun n hn => by
    have := ht.cell gFields n hn
    rw [fld_at n hn] at this
    exact this
  exact ⟨World.block_lt_of_cell? W ⟨0, 0, none⟩ (hx 0 (by decide)), hx⟩
theorem u8_wf {z : Int} (h : (Lit.int .u8 z).wf = true) : ∃ b : UInt8, z = (b.toNat : Int) := by
  have hb : 0 ≤ z ∧ z ≤ 255 := bounds_u8 h
  exact ⟨UInt8.ofNat z.toNat, by rw [UInt8.toNat_ofNat']; omega⟩
theorem map_u8 : ∀ (zs : List Int), (∀ z ∈ zs, (Lit.int .u8 z).wf = true) → ∃ bs : List UInt8, zs = bs.map fun b => (b.toNat : Int)
  | [], _ => ⟨[], rfl⟩
  | z :: r, h => by
    obtain ⟨b, hb⟩ := u8_wf (h z (by simp))
    obtain ⟨bs, hbs⟩ := map_u8 r (fun x hx => h x (by simp [hx]))
    exact ⟨b :: bs, by simp [hb, hbs]⟩
/-- a slice of bytes that came in -/
theorem bytes_in {H : Type} {enc : TypeId × Value → H} {W : World} {A : Option Addr} {n c : Nat} {d : DataW H} {p : List MemPlace}
    (h : DataW.Trod enc Tryz.prog W 0 (fun _ => true) true 22 (.slice A n c) d p) : ∃ bs : List UInt8, bs.length = n ∧ (n ≤ c ∧ c ≤ maxLen) ∧ Rd W A (cB bs) := by
  obtain ⟨fuel, hf⟩ := h
  rcases open_ints Tryz.underlying22 Tryz.underlying5 cellsU hf with ⟨hcs, _⟩ | ⟨a, len', cap', zs, hcs, _, hl, hm, hz, _, hcell, hwz⟩
  · simp [Value.cells] at hcs
    obtain ⟨rfl, rfl, rfl⟩ := hcs
    exact ⟨[], rfl, ⟨Nat.le_refl _, Nat.zero_le _⟩, Rd.nil _ _⟩
  · simp [Value.cells] at hcs
    obtain ⟨rfl, rfl, rfl⟩ := hcs
    rw [if_pos rfl] at hz
    obtain ⟨bs, rfl⟩ := map_u8 zs hwz
    rw [List.length_map] at hz
    refine ⟨bs.take n, by rw [List.length_take]; omega, ⟨hl, hm⟩, fun j u hu => ?_⟩
    have hj : j < (bs.take n).length := by rw [← cB_len]; exact (List.getElem?_eq_some_iff.1 hu).1
    rw [List.length_take] at hj
    have hc := hcell j (by rw [List.length_map]; omega)
    refine ⟨a, rfl, ?_, ?_⟩
    · have := World.block_lt_of_cell? W _ hc
      have e : (a.add j).block = a.block := by unfold Addr.add; split <;> rfl
      rw [e] at this
      exact this
    · rw [hc, ← hu]
      have hjz : j < bs.length := by omega
      have hjn : j < n := by omega
      simp [cB, hjn, hjz]
def litV : DataW Unit → Value
  | .lit (.int k z) => .int k z
  | _ => undef
def valsOf : DataW Unit → Array Value
  | .agg l => (l.map litV).toArray
  | _ => #[]
def setO (cs : Array Value) : Obj → Obj
  | .cells _ t frozen => .cells cs t frozen
  | o => o
end Go.Proofs.YtefkbdmgplfgoaaGreatDoor.Sta
end
section
set_option maxRecDepth 100000
namespace Go.Proofs.YtefkbdmgplfgoaaGreatDoor.Sta
open Go.ChangeShapes Go.WideShapes Go.ChangeAt Go.RowKit Utf Par

theorem tabs_of {W : World} (h : laidMetH Tryz.prog [("fenestra/utf.marks", Rows.laid_fenestra_utf_marks), ("fenestra/state.fields", Rows.laid_fenestra_state_fields)] W) : Mk W ∧ Tf W := by
  have h' : laidMet Tryz.prog [("fenestra/utf.marks", Rows.laid_fenestra_utf_marks), ("fenestra/state.fields", Rows.laid_fenestra_state_fields)] W := h
  exact ⟨mk_in h' (by simp), tf_in h' (by simp)⟩
/-- a world for the witnesses: the settled one, the blocks of the two variables holding what their initialisers lay -/
noncomputable def laidWorld (os : Os) : World :=
  { World.holding Tryz.prog os ⟨#[], #[], []⟩ with heap := ((World.holding Tryz.prog os ⟨#[], #[], []⟩).heap.modify 2 (setO (valsOf Rows.laid_fenestra_utf_marks))).modify 0 (setO (valsOf Rows.laid_fenestra_state_fields)) }
end Go.Proofs.YtefkbdmgplfgoaaGreatDoor.Sta
end
