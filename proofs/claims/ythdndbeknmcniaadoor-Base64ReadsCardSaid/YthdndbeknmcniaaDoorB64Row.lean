/-
  How bytes that came in are read; a world for the witnesses: the rows list two tables of Go's own unicode/utf8, which no walk here reads.
-/
import Derived.Test.YthdndbeknmcniaaDoorCards
import Derived.Test.YthdndbeknmcniaaDoorTie
import Derived.Test.YthdndbeknmcniaaDoorUtfWords
import Derived.WalkKit
import Derived.ProofKit
import Derived.OpenShut
import Derived.Deep.DeepHandedRow
import Derived.Lib.LaidTab
import Derived.Lib.LaidU8
import Derived.Lib.SmallJoins
section
set_option maxRecDepth 100000
namespace Go.Proofs.YthdndbeknmcniaaDoor.B64
open Go.ChangeShapes Go.WideShapes Go.ChangeAt Go.RowKit Utf

theorem own : ownKnob Tryd.prog.godebug = none := by kernel_rfl
theorem laidOut : laidOutB Tryd.prog = true := by kernel_rfl
theorem cellsU : Tryd.prog.cellsOf 5 = 1 := by kernel_rfl
theorem u8_wf {z : Int} (h : (Lit.int .u8 z).wf = true) : ∃ b : UInt8, z = (b.toNat : Int) := by
  have hb : 0 ≤ z ∧ z ≤ 255 := bounds_u8 h
  exact ⟨UInt8.ofNat z.toNat, by rw [UInt8.toNat_ofNat']; omega⟩
theorem map_u8 : ∀ (zs : List Int), (∀ z ∈ zs, (Lit.int .u8 z).wf = true) → ∃ bs : List UInt8, zs = bs.map fun b => (b.toNat : Int)
  | [], _ => ⟨[], rfl⟩
  | z :: r, h => by
    obtain ⟨b, hb⟩ := u8_wf (h z (by simp))
    obtain ⟨bs, hbs⟩ := map_u8 r (fun x hx => h x (by simp [hx]))
    exact ⟨b :: bs, by simp [hb, hbs]⟩
/-- a slice of bytes that came in -/
theorem bytes_in {H : Type} {enc : TypeId × Value → H} {W : World} {A : Option Addr} {n c : Nat} {d : DataW H} {p : List MemPlace}
    (h : DataW.Trod enc Tryd.prog W 0 (fun _ => true) true 28 (.slice A n c) d p) : ∃ bs : List UInt8, bs.length = n ∧ (n ≤ c ∧ c ≤ maxLen) ∧ Rd W A (cB bs) := by
  obtain ⟨fuel, hf⟩ := h
  rcases open_ints Tryd.underlying28 Tryd.underlying5 cellsU hf with ⟨hcs, _⟩ | ⟨a, len', cap', zs, hcs, _, hl, hm, hz, _, hcell, hwz⟩
  · simp [Value.cells] at hcs
    obtain ⟨rfl, rfl, rfl⟩ := hcs
    exact ⟨[], rfl, ⟨Nat.le_refl _, Nat.zero_le _⟩, Rd.nil _ _⟩
  · simp [Value.cells] at hcs
    obtain ⟨rfl, rfl, rfl⟩ := hcs
    rw [if_pos rfl] at hz
    obtain ⟨bs, rfl⟩ := map_u8 zs hwz
    rw [List.length_map] at hz
    refine ⟨bs.take n, by rw [List.length_take]; omega, ⟨hl, hm⟩, fun j u hu => ?_⟩
    have hj : j < (bs.take n).length := by rw [← cB_len]; exact (List.getElem?_eq_some_iff.1 hu).1
    rw [List.length_take] at hj
    have hc := hcell j (by rw [List.length_map]; omega)
    refine ⟨a, rfl, ?_, ?_⟩
    · have := World.block_lt_of_cell? W _ hc
      have e : (a.add j).block = a.block := by unfold Addr.add; split <;> rfl
      rw [e] at this
      exact this
    · rw [hc, ← hu]
      have hjz : j < bs.length := by omega
      have hjn : j < n := by omega
      simp [cB, hjn, hjz]
def litV : DataW Unit → List Value
  | .lit (.int k z) => [.int k z]
  | .agg [.lit (.int k z), .lit (.int k2 z2)] => [.int k z, .int k2 z2]
  | _ => [undef]
def valsOf : DataW Unit → Array Value
  | .agg l => (l.flatMap litV).toArray
  | _ => #[]
def setO (cs : Array Value) : Obj → Obj
  | .cells _ t frozen => .cells cs t frozen
  | o => o
/-- a world for the witnesses: the settled one, the blocks of the two variables holding what their texts lay -/
noncomputable def laidWorld (os : Os) : World :=
  { World.holding Tryd.prog os ⟨#[], #[], []⟩ with heap := ((World.holding Tryd.prog os ⟨#[], #[], []⟩).heap.modify 1 (setO (valsOf Rows.laid_unicode_utf8_first))).modify 2 (setO (valsOf Rows.laid_unicode_utf8_acceptRanges)) }
end Go.Proofs.YthdndbeknmcniaaDoor.B64
end
