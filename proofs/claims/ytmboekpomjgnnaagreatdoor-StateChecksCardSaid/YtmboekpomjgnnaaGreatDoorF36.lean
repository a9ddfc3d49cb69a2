/-
  UtfJ
-/
import Derived.Test.YtmboekpomjgnnaaGreatDoorF13
import Derived.Test.YtmboekpomjgnnaaGreatDoorF35
namespace Go.Proofs.YtmboekpomjgnnaaGreatDoor.Utf
open Go.RowKit Go.Shelf

attribute [local go_sem] Oper.semAt_some

theorem runL_take (l : List UInt8) (k : Nat) (b : UInt8) (h : l[k]? = some b) :
    runL ([], []) (l.take (k + 1)) = ((stepL (runL ([], []) (l.take k)).1 b).1, (runL ([], []) (l.take k)).2 ++ (stepL (runL ([], []) (l.take k)).1 b).2) := by
  rw [List.take_add_one, h]; exact runL_snoc _ _ _

theorem runL_p (st : List UInt8 × List Int) (h : st.1.length ≤ 3) (l : List UInt8) : (runL st l).1.length ≤ 3 := by
  induction l generalizing st with
  | nil => exact h
  | cons x r ih => exact ih _ (stepL_len st.1 x).1

end Go.Proofs.YtmboekpomjgnnaaGreatDoor.Utf
