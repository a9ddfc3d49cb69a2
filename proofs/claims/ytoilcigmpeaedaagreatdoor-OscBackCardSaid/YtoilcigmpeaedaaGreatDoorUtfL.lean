/-
  Contracts of what the laws of layer 1 use besides the utf package: Ints, is, steps.
-/
import Derived.Test.YtoilcigmpeaedaaGreatDoorUtfH
import Derived.Test.YtoilcigmpeaedaaGreatDoorUtfK
namespace Go.Proofs.YtoilcigmpeaedaaGreatDoor.Utf
open Go.RowKit

def eqI (xs ys : List Int) : Bool := decide (xs = ys)
theorem eqI_self (xs : List Int) : eqI xs xs = true := by simp [eqI]
theorem eqI_len {xs ys : List Int} (h : xs.length ≠ ys.length) : eqI xs ys = false := by
  simp only [eqI, decide_eq_false_iff_not]
  intro e; exact h (by rw [e])
theorem take_snoc_eq {xs ys : List Int} {k : Nat} {x : Int} (hx : xs[k]? = some x) (hy : ys[k]? = some x) (h : xs.take k = ys.take k) : xs.take (k + 1) = ys.take (k + 1) := by
  rw [List.take_add_one, List.take_add_one, hx, hy, h]
theorem eqI_at {xs ys : List Int} {k : Nat} {x y : Int} (hx : xs[k]? = some x) (hy : ys[k]? = some y) (h : x ≠ y) : eqI xs ys = false := by
  simp only [eqI, decide_eq_false_iff_not]
  intro e; rw [e, hy] at hx; exact h (by simpa using hx.symm)

theorem bytes_of {P : Program} (w : World) (src dst e : TypeId) (s : ByteArray) (hs : P.underlying src = some .string) (hd : P.underlying dst = some (.slice e)) (he : P.underlying e = some (.int .u8)) :
    ∃ c w1, (convert src dst (.string s)).run P w = .ok (.slice (some ⟨w.heap.size, 0, none⟩) s.size c) w1 ∧ s.size ≤ c ∧ Rd w1 (some ⟨w.heap.size, 0, none⟩) (cB s.data.toList) ∧ Below w.heap.size w w1 := by
  refine ⟨_, _, run_bytes_of_string w src dst e s hs hd he, grownCap_ge _ _ _ _, ?_, ?_⟩
  · intro j u hu
    refine ⟨_, rfl, by simp, World.news_of_block (heap_alloc_new w.drew _) j u ?_⟩
    have hj : j < (cB s.data.toList).length := (List.getElem?_eq_some_iff.1 hu).1
    rw [bytesRow, Array.toList_append, List.getElem?_append_left (by simpa [cB] using hj), ← hu]
    simp [cB]
  · exact ((Below.refl _ w).drew).alloc (Nat.le_refl _) _

theorem bytes_list (r : ByteArray) : r.toList = r.data.toList := ByteArray.toList_eq r
def eqB (xs ys : List UInt8) : Bool := decide (xs = ys)
theorem eqB_beq (a b : List UInt8) : eqB a b = (a == b) := by
  unfold eqB
  by_cases h : a = b
  · subst h; simp
  · simp [h]

end Go.Proofs.YtoilcigmpeaedaaGreatDoor.Utf
