/-
  The walk of the law UtfPieces: it returns true, whatever its argument; nothing that lay before the call has turned.
-/
import Derived.Test.YtneikcpejejagaaDoorUtfM
import Derived.Test.YtneikcpejejagaaDoorUtfN
import Derived.Deep.RegionHeld3
import Derived.IntWalk
import Derived.Lib.Strings
namespace Go.Proofs.YtneikcpejejagaaDoor.Utf
open Go.RowKit

theorem ty_ne {w : World} {A : Option Addr} {base n : Nat} {v : Value} {xs : List Value} (ht : TyB w A) (ho : w.ownsRow base 3 1 v n xs) : ∀ ad, A = some ad → some ad.block ≠ v.ownBlock := by
  intro ad e h
  obtain ⟨cur, fr, hc⟩ := ht ad e
  rcases ho.2 with ⟨rfl, _⟩ | ⟨g, cap, cur', rfl, _, hg, _⟩
  · simp [Value.ownBlock] at h
  · obtain rfl : ad.block = g := by simpa [Value.ownBlock] using h
    rw [hc] at hg
    cases hg

/-- what stands between two operations of the last statement of a round -/
def PS (w : World) (A : Option Addr) (bs : List UInt8) (B : Option Addr) (zs : List Int) (W : World) : Prop := Rd W A (cB bs) ∧ Rd W B (cI zs) ∧ Mk W ∧ Below w.heap.size w W
theorem PS.keep {w : World} {A : Option Addr} {bs : List UInt8} {B : Option Addr} {zs : List Int} {W W' : World} (h : PS w A bs B zs W) (hb : Below W.heap.size W W') : PS w A bs B zs W' :=
  ⟨h.1.below hb, h.2.1.below hb, h.2.2.1.keep hb, h.2.2.2.trans (hb.mono h.2.2.2.size)⟩

theorem pieces_eq (s : ByteArray) (k : Nat) (l1 : List UInt8) (L : List Int) (h : runL ([], []) (s.data.toList.take (k + 1)) = (l1, L)) : eqI (codesL (s.extract 0 (k + 1)).data.toList) (L ++ flushL l1) = true := by
  rw [Lib.extract_data, List.drop_zero, Nat.sub_zero]
  unfold codesL
  rw [h]
  exact eqI_self _
theorem runL_p3 (l : List UInt8) : (runL ([], []) l).1.length ≤ 3 := runL_p ([], []) (by simp) l

end Go.Proofs.YtneikcpejejagaaDoor.Utf
