/-
  Contracts of the reference's small functions: has, signs, text.
-/
import Derived.Test.YtefkbdmgplfgoaaDoorStaA
namespace Go.Proofs.YtefkbdmgplfgoaaDoor.Sta
open Go.RowKit Utf Par

theorem hasB_hit {n : Int} {l : List Int} {k : Nat} (h : l[k]? = some n) : hasB n l = true := decide_eq_true (List.mem_of_getElem? h)
theorem not_take_succ {n z : Int} {l : List Int} {k : Nat} (h : l[k]? = some z) (hn : n ∉ l.take k) (hz : z ≠ n) : n ∉ l.take (k + 1) := by
  rw [List.take_add_one, h]
  simp only [Option.toList_some, List.mem_append, List.mem_singleton, not_or]
  exact ⟨hn, fun e => hz e.symm⟩
def sigC (c : UInt8) : Bool := decide (32 ≤ c.toNat) && decide (c.toNat ≤ 47)
def texC (c : UInt8) : Bool := decide (32 ≤ c.toNat) && !decide (c.toNat = 127)
theorem all_take {α : Type} (p : α → Bool) (l : List α) (k : Nat) (x : α) (h : l[k]? = some x) : (l.take (k + 1)).all p = ((l.take k).all p && p x) := by
  rw [List.take_add_one, h]; simp
theorem all_miss {α : Type} (p : α → Bool) (l : List α) (k : Nat) (x : α) (h : l[k]? = some x) (hp : p x = false) : l.all p = false := by
  rw [List.all_eq_false]
  exact ⟨x, List.mem_of_getElem? h, by simp [hp]⟩
end Go.Proofs.YtefkbdmgplfgoaaDoor.Sta
