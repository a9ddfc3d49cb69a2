/-
  Contracts of the laws' row, is and refused.
-/
import Derived.Test.YtefkbdmgplfgoaaGreatDoorParF
import Derived.Test.YtefkbdmgplfgoaaGreatDoorParL
namespace Go.Proofs.YtefkbdmgplfgoaaGreatDoor.Par
open Go.RowKit Utf

theorem get_take {α : Type} (l : List α) (k : Nat) (x : α) (h : l[k]? = some x) : l.take (k + 1) = l.take k ++ [x] := by
  rw [List.take_add_one, h]; rfl
theorem sz_runV (l : List (List Int)) (s : List UInt8) (h : Sz l) : Sz (runV l s).1 := by
  induction s generalizing l with
  | nil => exact h
  | cons c s ih =>
    unfold runV
    split
    · exact ih _ (stpV_sz l c)
    · exact ⟨by simp, by simp⟩
theorem sz_prsV (s : List UInt8) : Sz (prsV s).1 := by
  unfold prsV
  split
  · exact ⟨by simp, by simp⟩
  · exact sz_runV _ _ ⟨by simp, by simp⟩
end Go.Proofs.YtefkbdmgplfgoaaGreatDoor.Par
