/-
  ParBox
-/
import Derived.Lib.SmallJoins
import Derived.Deep.MidRow
import Derived.Test.YteepfecplabinaaDoorP9
namespace Go.Proofs.YteepfecplabinaaDoor.Par
open Go.RowKit Utf

/-- a block of the call's own with these cells at its head, which may be written -/
def Box (w : World) (B : Nat) (cs : List Value) : Prop := B < w.heap.size ∧ w.rangeAt B 0 cs ∧ w.there B 0 cs.length
theorem Box.cell {w : World} {B : Nat} {cs : List Value} (h : Box w B cs) (j : Nat) (v : Value) (hv : cs[j]? = some v) : w.cell? ⟨B, j, none⟩ = some v := by
  have := h.2.1 j v hv
  rwa [Nat.zero_add] at this
theorem Box.free {w : World} {B : Nat} {cs : List Value} (h : Box w B cs) (j : Nat) (hj : j < cs.length) : w.frozen? ⟨B, j, none⟩ = false := by
  have := (h.2.2 j hj).2
  rwa [Nat.zero_add] at this
theorem Box.at {w w' : World} {B : Nat} {cs : List Value} (h : Box w B cs) (hs : w.heap.size ≤ w'.heap.size) (hb : w'.heap[B]? = w.heap[B]?) : Box w' B cs :=
  ⟨Nat.lt_of_lt_of_le h.1 hs, fun j v hv => (World.cell?_of_block (a := ⟨B, 0 + j, none⟩) hb).trans (h.2.1 j v hv), fun j hj => ⟨by rw [World.cell?_of_block (a := ⟨B, 0 + j, none⟩) hb]; exact (h.2.2 j hj).1, by rw [World.frozen?_of_block (a := ⟨B, 0 + j, none⟩) hb]; exact (h.2.2 j hj).2⟩⟩
theorem Box.keep {w w' : World} {B : Nat} {cs : List Value} (h : Box w B cs) (hb : Below w.heap.size w w') : Box w' B cs := h.at hb.size (hb.block B h.1)
theorem Box.grown {w w' : World} {B : Nat} {cs : List Value} {row : Option Nat} (h : Box w B cs) (hg : w.grownBy w' row) (hne : some B ≠ row) : Box w' B cs := h.at hg.size (hg.block B h.1 hne)
theorem Box.alloc {w : World} {B : Nat} {cs : List Value} (h : Box w B cs) (o : Obj) : Box (w.alloc o) B cs := h.keep (below_box w o)
theorem Box.drew {w : World} {B : Nat} {cs : List Value} (h : Box w B cs) : Box w.drew B cs := h.keep ((Below.refl _ w).drew)
theorem Box.of {w : World} {B : Nat} {cs : Array Value} {t : TypeId} (h : w.heap[B]? = some (.cells cs t (0, 0))) : Box w B cs.toList := by
  have hlt : B < w.heap.size := (Array.getElem?_eq_some_iff.1 h).1
  refine ⟨hlt, fun j v hv => ?_, fun j hj => ⟨?_, ?_⟩⟩
  · rw [Nat.zero_add, Joins.cell_of_block h j]
    simpa using hv
  · rw [Nat.zero_add, Joins.cell_of_block h j]
    simp at hj
    simp [hj]
  · simp [World.frozen?, h]
theorem Box.new (w : World) (cs : Array Value) (t : TypeId) : Box (w.alloc (.cells cs t)) w.heap.size cs.toList := Box.of (heap_alloc_new w _)
theorem Box.set {w : World} {B : Nat} {cs : List Value} (h : Box w B cs) (j : Nat) (v : Value) : Box (w.setCell ⟨B, j, none⟩ v) B (cs.set j v) := by
  refine ⟨by simpa using h.1, fun i u hu => ?_, fun i hi => ⟨?_, ?_⟩⟩
  · rw [Nat.zero_add]
    rw [List.getElem?_set] at hu
    by_cases e : j = i
    · subst e
      rw [if_pos rfl] at hu
      split at hu
      · rename_i hj
        cases hu
        exact World.cell?_setCell_same _ _ _ (h.cell j _ (List.getElem?_eq_getElem hj))
      · cases hu
    · rw [if_neg e] at hu
      rw [World.cell?_setCell_other _ _ _ _ (by intro h; injection h; contradiction)]
      exact h.cell i u hu
  · have := World.isSome_setCells B [v] j w ⟨B, 0 + i, none⟩ ((h.2.2 i (by simpa using hi)).1)
    simpa [World.setCells] using this
  · rw [World.frozen?_setCell]
    exact (h.2.2 i (by simpa using hi)).2
theorem grown_set (w : World) (B j : Nat) (v : Value) : w.grownBy (w.setCell ⟨B, j, none⟩ v) (some B) := by
  refine ⟨rfl, rfl, rfl, by simp, fun k hk hne => ?_⟩
  have e : B ≠ k := fun e => hne (by rw [e])
  simp [World.setCell, Array.getElem?_modify, e]
theorem Box.below {w w' : World} {B B0 : Nat} {cs : List Value} (h : Box w B cs) (hb : Below B0 w w') (hB : B < B0) : Box w' B cs := h.at hb.size (hb.block B hB)
end Go.Proofs.YteepfecplabinaaDoor.Par
