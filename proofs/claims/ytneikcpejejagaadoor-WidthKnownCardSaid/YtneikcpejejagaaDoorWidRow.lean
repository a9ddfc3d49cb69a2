/-
  What the rows' list gives: the table of marks and the three tables of ranges lie in the blocks of their variables; a world for the witnesses.
-/
import Derived.Test.YtneikcpejejagaaDoorCards
import Derived.Test.YtneikcpejejagaaDoorTie
import Derived.Test.YtneikcpejejagaaDoorWidB
import Derived.WalkKit
import Derived.ProofKit
import Derived.OpenShut
import Derived.Deep.DeepHandedRow
import Derived.Lib.LaidTab
import Derived.Lib.LaidU8
namespace Go.Proofs.YtneikcpejejagaaDoor.Wid
open Go.ChangeShapes Go.WideShapes Go.ChangeAt Go.RowKit Utf

theorem own : ownKnob Tryd.prog.godebug = none := by kernel_rfl
theorem laidOut : laidOutB Tryd.prog = true := by kernel_rfl
theorem gMarks : Tryd.prog.globalNamed "fenestra/utf.marks" = some 3 := by kernel_rfl
theorem gMarksType : (Tryd.prog.globals[3]?).map (·.type) = some 60 := by kernel_rfl
theorem gC : Tryd.prog.globalNamed "fenestra/width.controls" = some 0 := by kernel_rfl
theorem gCType : (Tryd.prog.globals[0]?).map (·.type) = some 41 := by kernel_rfl
theorem gZ : Tryd.prog.globalNamed "fenestra/width.marks" = some 1 := by kernel_rfl
theorem gZType : (Tryd.prog.globals[1]?).map (·.type) = some 42 := by kernel_rfl
theorem gT : Tryd.prog.globalNamed "fenestra/width.wides" = some 2 := by kernel_rfl
theorem gTType : (Tryd.prog.globals[2]?).map (·.type) = some 43 := by kernel_rfl
theorem cellsA : Tryd.prog.cellsOf 60 = 5 := by kernel_rfl
theorem cellsI : Tryd.prog.cellsOf 3 = 1 := by kernel_rfl
theorem cellsU : Tryd.prog.cellsOf 5 = 1 := by kernel_rfl
theorem cellsS : Tryd.prog.cellsOf 40 = 2 := by kernel_rfl

/-- a list of ranges, as a row lists it -/
def spansD (l : List (Int × Int)) : DataW Unit := .agg (l.map fun p => .agg ([p.1, p.2].map fun z => .lit (.int .i64 z)))

theorem cS_len (l : List (Int × Int)) : (cS l).length = 2 * l.length := by
  induction l with
  | nil => rfl
  | cons p r ih => simp only [cS, List.length_cons, ih]; omega
theorem spans_cells {W : World} {t n fuel : Nat} {cs : List Value} {p : List MemPlace} {sp : Nat → Bool} {held : Bool} {base : Nat} (l : List (Int × Int)) (ht : Tryd.prog.underlying t = some (.array n 40)) (hn : l.length = n)
    (h : DataW.trod (fun _ => ()) Tryd.prog W base sp held fuel t cs = some (spansD l, p)) : ∀ (j : Nat) (u : Value), (cS l)[j]? = some u → cs[j]? = some u := fun j u hu => by
  have hj : j < 2 * l.length := by rw [← cS_len]; exact (List.getElem?_eq_some_iff.1 hu).1
  obtain ⟨q, hq⟩ : ∃ q, l[j / 2]? = some q := ⟨l[j / 2]'(by omega), List.getElem?_eq_getElem (by omega)⟩
  obtain ⟨fuel', d, pl, hd, hr⟩ := Lib.array_elem ht h (j / 2) (by omega)
  rw [List.getElem?_map, hq] at hd
  obtain rfl : (DataW.agg ([q.1, q.2].map fun z => .lit (.int .i64 z)) : DataW Unit) = d := by simpa using hd
  have hc := Lib.ints_of_struct Tryd.underlying40 (fun i f hf => by
    have hi : i < 2 := (Array.getElem?_eq_some_iff.1 hf).1
    rcases (show i = 0 ∨ i = 1 by omega) with rfl | rfl
    · cases hf; exact ⟨Tryd.underlying3, rfl, cellsI⟩
    · cases hf; exact ⟨Tryd.underlying3, rfl, cellsI⟩) cellsS hr
  rw [cellsS] at hc
  obtain ⟨e0, e1⟩ := cS_at l (j / 2) q hq
  have c0 : cs[j / 2 * 2]? = some (.int .i64 q.1) := by
    have := congrArg (·[0]?) hc
    simpa [List.getElem?_take, List.getElem?_drop] using this
  have c1 : cs[j / 2 * 2 + 1]? = some (.int .i64 q.2) := by
    have := congrArg (·[1]?) hc
    simpa [List.getElem?_take, List.getElem?_drop] using this
  rcases (show j = 2 * (j / 2) ∨ j = 2 * (j / 2) + 1 by omega) with e | e
  · rw [e, e0] at hu
    rw [e, ← hu, show 2 * (j / 2) = j / 2 * 2 by omega, c0]
  · rw [e, e1] at hu
    rw [e, ← hu, show 2 * (j / 2) + 1 = j / 2 * 2 + 1 by omega, c1]
theorem range_of {W : World} {name : String} {g t n : Nat} (l : List (Int × Int)) (hg : Tryd.prog.globalNamed name = some g) (hty : (Tryd.prog.globals[g]?).map (·.type) = some t) (ht : Tryd.prog.underlying t = some (.array n 40)) (hn : l.length = n) (h0 : 0 < n)
    (h : Lib.VarReads Tryd.prog W name (spansD l)) : g < W.heap.size ∧ W.rangeAt g 0 (cS l) := by
  obtain ⟨g', t', cs, fuel, p, hg', ht', hvar, hd⟩ := h
  obtain rfl := Option.some.inj (hg.symm.trans hg')
  obtain rfl := Option.some.inj (hty.symm.trans ht')
  have hr : W.rangeAt g 0 (cS l) := fun j u hu => by
    have h1 := spans_cells l ht hn hd j u hu
    rw [Nat.zero_add, World.var?_cell hg hvar j]
    simpa using h1
  refine ⟨?_, hr⟩
  obtain ⟨q, hq⟩ : ∃ q, l[0]? = some q := ⟨l[0]'(by omega), List.getElem?_eq_getElem (by omega)⟩
  exact World.block_lt_of_cell? W _ (hr (2 * 0) _ (cS_at l 0 q hq).1)

theorem marks_of {W : World} (h : laidMetH Tryd.prog [("fenestra/utf.marks", Rows.laid_fenestra_utf_marks), ("fenestra/width.controls", Rows.laid_fenestra_width_controls), ("fenestra/width.marks", Rows.laid_fenestra_width_marks), ("fenestra/width.wides", Rows.laid_fenestra_width_wides)] W) : Tb W := by
  have h' : laidMet Tryd.prog [("fenestra/utf.marks", Lib.tabData .i64 [0, 0, 192, 224, 240]), ("fenestra/width.controls", spansD ctlT), ("fenestra/width.marks", spansD zeroT), ("fenestra/width.wides", spansD twoT)] W := h
  have ht : Lib.TabIs Tryd.prog W "fenestra/utf.marks" .i64 [0, 0, 192, 224, 240] :=
    Lib.tabIs_of_head gMarks gMarksType Tryd.underlying60 Tryd.underlying3 cellsI cellsA h'
  have c0 : W.cell? ⟨3, 0, none⟩ = some (.int .i64 0) := ht.cell gMarks 0 (by decide)
  have c1 : W.cell? ⟨3, 1, none⟩ = some (.int .i64 0) := ht.cell gMarks 1 (by decide)
  have c2 : W.cell? ⟨3, 2, none⟩ = some (.int .i64 192) := ht.cell gMarks 2 (by decide)
  have c3 : W.cell? ⟨3, 3, none⟩ = some (.int .i64 224) := ht.cell gMarks 3 (by decide)
  have c4 : W.cell? ⟨3, 4, none⟩ = some (.int .i64 240) := ht.cell gMarks 4 (by decide)
  refine ⟨⟨World.block_lt_of_cell? W ⟨3, 0, none⟩ c0, fun n hn => ?_⟩, ?_, ?_, ?_⟩
  · rcases (show n = 0 ∨ n = 1 ∨ n = 2 ∨ n = 3 ∨ n = 4 by omega) with rfl | rfl | rfl | rfl | rfl
    · exact c0
    · exact c1
    · exact c2
    · exact c3
    · exact c4
  · exact range_of ctlT gC gCType Tryd.underlying41 rfl (by decide) (Lib.laidMet.reads h' (by simp))
  · exact range_of zeroT gZ gZType Tryd.underlying42 rfl (by decide) (Lib.laidMet.reads h' (by simp))
  · exact range_of twoT gT gTType Tryd.underlying43 rfl (by decide) (Lib.laidMet.reads h' (by simp))
/-- a slice of integers that came in, as the walks want it -/
theorem ints_in {H : Type} {enc : TypeId × Value → H} {W : World} {A : Option Addr} {n c : Nat} {d : DataW H} {p : List MemPlace}
    (h : DataW.Trod enc Tryd.prog W 0 (fun _ => true) true 32 (.slice A n c) d p) : ∃ zs : List Int, zs.length = n ∧ (n ≤ c ∧ c ≤ 9223372036854775807) ∧ Rd W A (cI zs) ∧ (∀ z ∈ zs, (Lit.int .i64 z).wf = true) := by
  obtain ⟨fuel, hf⟩ := h
  rcases open_ints Tryd.underlying32 Tryd.underlying3 cellsI hf with ⟨hcs, _⟩ | ⟨a, len', cap', zs, hcs, _, hl, hm, hz, _, hcell, hwz⟩
  · simp [Value.cells] at hcs
    obtain ⟨rfl, rfl, rfl⟩ := hcs
    exact ⟨[], rfl, ⟨Nat.le_refl _, by omega⟩, Rd.nil _ _, fun _ h => by cases h⟩
  · simp [Value.cells] at hcs
    obtain ⟨rfl, rfl, rfl⟩ := hcs
    rw [if_pos rfl] at hz
    unfold maxLen at hm
    refine ⟨zs.take n, by rw [List.length_take]; omega, ⟨hl, hm⟩, fun j u hu => ?_, fun z hz' => hwz z (List.mem_of_mem_take hz')⟩
    have hj : j < (zs.take n).length := by rw [← cI_len]; exact (List.getElem?_eq_some_iff.1 hu).1
    rw [List.length_take] at hj
    have hc := hcell j (by omega)
    refine ⟨a, rfl, ?_, ?_⟩
    · have := World.block_lt_of_cell? W _ hc
      have e : (a.add j).block = a.block := by unfold Addr.add; split <;> rfl
      rw [e] at this
      exact this
    · rw [hc, ← hu]
      have hjz : j < zs.length := by omega
      have hjn : j < n := by omega
      simp [cI, hjn, hjz]
theorem u8_wf {z : Int} (h : (Lit.int .u8 z).wf = true) : ∃ b : UInt8, z = (b.toNat : Int) := by
  have hb : 0 ≤ z ∧ z ≤ 255 := bounds_u8 h
  exact ⟨UInt8.ofNat z.toNat, by rw [UInt8.toNat_ofNat']; omega⟩
theorem map_u8 : ∀ (zs : List Int), (∀ z ∈ zs, (Lit.int .u8 z).wf = true) → ∃ bs : List UInt8, zs = bs.map fun b => (b.toNat : Int)
  | [], _ => ⟨[], rfl⟩
  | z :: r, h => by
    obtain ⟨b, hb⟩ := u8_wf (h z (by simp))
    obtain ⟨bs, hbs⟩ := map_u8 r (fun x hx => h x (by simp [hx]))
    exact ⟨b :: bs, by simp [hb, hbs]⟩

def setO (cs : Array Value) : Obj → Obj
  | .cells _ t frozen => .cells cs t frozen
  | o => o
/-- a world for the witnesses: the settled one, the blocks of the four variables holding what their initialisers lay -/
noncomputable def laidWorld (os : Os) : World :=
  { World.holding Tryd.prog os ⟨#[], #[], []⟩ with heap := ((((World.holding Tryd.prog os ⟨#[], #[], []⟩).heap.modify 3 (setO #[.int .i64 0, .int .i64 0, .int .i64 192, .int .i64 224, .int .i64 240])).modify 0 (setO (cS ctlT).toArray)).modify 1 (setO (cS zeroT).toArray)).modify 2 (setO (cS twoT).toArray) }
end Go.Proofs.YtneikcpejejagaaDoor.Wid
