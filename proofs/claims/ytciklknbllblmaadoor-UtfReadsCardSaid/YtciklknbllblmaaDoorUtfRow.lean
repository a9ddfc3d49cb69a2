/-
  What the rows' list gives: the table of marks lies in block 0; a world for the witnesses.
-/
import Derived.Test.YtciklknbllblmaaDoorCards
import Derived.Test.YtciklknbllblmaaDoorTie
import Derived.Test.YtciklknbllblmaaDoorUtfM
import Derived.WalkKit
import Derived.ProofKit
import Derived.OpenShut
import Derived.Deep.DeepHandedRow
import Derived.Lib.LaidTab
namespace Go.Proofs.YtciklknbllblmaaDoor.Utf
open Go.ChangeShapes Go.WideShapes Go.ChangeAt Go.RowKit

theorem own : ownKnob Tryd.prog.godebug = none := by kernel_rfl
theorem laidOut : laidOutB Tryd.prog = true := by kernel_rfl
theorem gMarks : Tryd.prog.globalNamed "fenestra/utf.marks" = some 0 := by kernel_rfl
theorem gMarksType : (Tryd.prog.globals[0]?).map (·.type) = some 49 := by kernel_rfl
theorem cellsA : Tryd.prog.cellsOf 49 = 5 := by kernel_rfl
theorem cellsI : Tryd.prog.cellsOf 3 = 1 := by kernel_rfl
theorem cellsU : Tryd.prog.cellsOf 5 = 1 := by kernel_rfl

theorem marks_of {W : World} (h : laidMetH Tryd.prog [("fenestra/utf.marks", Rows.laid_fenestra_utf_marks)] W) : Mk W := by
  have ht : Lib.TabIs Tryd.prog W "fenestra/utf.marks" .i64 [0, 0, 192, 224, 240] :=
    Lib.tabIs_of_head (rest := []) gMarks gMarksType Tryd.underlying49 Tryd.underlying3 cellsI cellsA h
  have c0 : W.cell? ⟨0, 0, none⟩ = some (.int .i64 0) := ht.cell gMarks 0 (by decide)
  have c1 : W.cell? ⟨0, 1, none⟩ = some (.int .i64 0) := ht.cell gMarks 1 (by decide)
  have c2 : W.cell? ⟨0, 2, none⟩ = some (.int .i64 192) := ht.cell gMarks 2 (by decide)
  have c3 : W.cell? ⟨0, 3, none⟩ = some (.int .i64 224) := ht.cell gMarks 3 (by decide)
  have c4 : W.cell? ⟨0, 4, none⟩ = some (.int .i64 240) := ht.cell gMarks 4 (by decide)
  refine ⟨World.block_lt_of_cell? W ⟨0, 0, none⟩ c0, fun n hn => ?_⟩
  rcases (show n = 0 ∨ n = 1 ∨ n = 2 ∨ n = 3 ∨ n = 4 by omega) with rfl | rfl | rfl | rfl | rfl
  · exact c0
  · exact c1
  · exact c2
  · exact c3
  · exact c4

/-- a slice of integers that came in, as the walks want it -/
theorem ints_in {H : Type} {enc : TypeId × Value → H} {W : World} {A : Option Addr} {n c : Nat} {d : DataW H} {p : List MemPlace}
    (h : DataW.Trod enc Tryd.prog W 0 (fun _ => true) true 22 (.slice A n c) d p) : ∃ zs : List Int, zs.length = n ∧ (n ≤ c ∧ c ≤ 9223372036854775807) ∧ Rd W A (cI zs) ∧ (∀ z ∈ zs, (Lit.int .i64 z).wf = true) := by
  obtain ⟨fuel, hf⟩ := h
  rcases open_ints Tryd.underlying22 Tryd.underlying3 cellsI hf with ⟨hcs, _⟩ | ⟨a, len', cap', zs, hcs, _, hl, hm, hz, _, hcell, hwz⟩
  · simp [Value.cells] at hcs
    obtain ⟨rfl, rfl, rfl⟩ := hcs
    exact ⟨[], rfl, ⟨Nat.le_refl _, by omega⟩, Rd.nil _ _, fun _ h => by cases h⟩
  · simp [Value.cells] at hcs
    obtain ⟨rfl, rfl, rfl⟩ := hcs
    rw [if_pos rfl] at hz
    unfold maxLen at hm
    refine ⟨zs.take n, by rw [List.length_take]; omega, ⟨hl, hm⟩, fun j u hu => ?_, fun z hz' => hwz z (List.mem_of_mem_take hz')⟩
    have hj : j < (zs.take n).length := by rw [← cI_len]; exact (List.getElem?_eq_some_iff.1 hu).1
    rw [List.length_take] at hj
    have hc := hcell j (by omega)
    refine ⟨a, rfl, ?_, ?_⟩
    · have := World.block_lt_of_cell? W _ hc
      have e : (a.add j).block = a.block := by unfold Addr.add; split <;> rfl
      rw [e] at this
      exact this
    · rw [hc, ← hu]
      have hjz : j < zs.length := by omega
      have hjn : j < n := by omega
      simp [cI, hjn, hjz]
theorem u8_wf {z : Int} (h : (Lit.int .u8 z).wf = true) : ∃ b : UInt8, z = (b.toNat : Int) := by
  have hb : 0 ≤ z ∧ z ≤ 255 := bounds_u8 h
  exact ⟨UInt8.ofNat z.toNat, by rw [UInt8.toNat_ofNat']; omega⟩
theorem map_u8 : ∀ (zs : List Int), (∀ z ∈ zs, (Lit.int .u8 z).wf = true) → ∃ bs : List UInt8, zs = bs.map fun b => (b.toNat : Int)
  | [], _ => ⟨[], rfl⟩
  | z :: r, h => by
    obtain ⟨b, hb⟩ := u8_wf (h z (by simp))
    obtain ⟨bs, hbs⟩ := map_u8 r (fun x hx => h x (by simp [hx]))
    exact ⟨b :: bs, by simp [hb, hbs]⟩
/-- a slice of bytes that came in -/
theorem bytes_in {H : Type} {enc : TypeId × Value → H} {W : World} {A : Option Addr} {n c : Nat} {d : DataW H} {p : List MemPlace}
    (h : DataW.Trod enc Tryd.prog W 0 (fun _ => true) true 30 (.slice A n c) d p) : ∃ bs : List UInt8, bs.length = n ∧ (n ≤ c ∧ c ≤ 9223372036854775807) ∧ Rd W A (cB bs) := by
  obtain ⟨fuel, hf⟩ := h
  rcases open_ints Tryd.underlying30 Tryd.underlying5 cellsU hf with ⟨hcs, _⟩ | ⟨a, len', cap', zs, hcs, _, hl, hm, hz, _, hcell, hwz⟩
  · simp [Value.cells] at hcs
    obtain ⟨rfl, rfl, rfl⟩ := hcs
    exact ⟨[], rfl, ⟨Nat.le_refl _, by omega⟩, Rd.nil _ _⟩
  · simp [Value.cells] at hcs
    obtain ⟨rfl, rfl, rfl⟩ := hcs
    rw [if_pos rfl] at hz
    unfold maxLen at hm
    obtain ⟨bs, rfl⟩ := map_u8 zs hwz
    rw [List.length_map] at hz
    refine ⟨bs.take n, by rw [List.length_take]; omega, ⟨hl, hm⟩, fun j u hu => ?_⟩
    have hj : j < (bs.take n).length := by rw [← cB_len]; exact (List.getElem?_eq_some_iff.1 hu).1
    rw [List.length_take] at hj
    have hc := hcell j (by rw [List.length_map]; omega)
    refine ⟨a, rfl, ?_, ?_⟩
    · have := World.block_lt_of_cell? W _ hc
      have e : (a.add j).block = a.block := by unfold Addr.add; split <;> rfl
      rw [e] at this
      exact this
    · rw [hc, ← hu]
      have hjz : j < bs.length := by omega
      have hjn : j < n := by omega
      simp [cB, hjn, hjz]

/-- a world for the witnesses: the settled one, block 0 holding what its initialiser lays -/
noncomputable def laidWorld (os : Os) : World :=
  { World.holding Tryd.prog os ⟨#[], #[], []⟩ with heap := (World.holding Tryd.prog os ⟨#[], #[], []⟩).heap.modify 0 fun
      | .cells _ t frozen => .cells #[.int .i64 0, .int .i64 0, .int .i64 192, .int .i64 224, .int .i64 240] t frozen
      | o => o }
end Go.Proofs.YtciklknbllblmaaDoor.Utf
