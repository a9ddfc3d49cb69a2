/-
  ColRow8
-/
import Derived.Laws.IdiomStrings
import Derived.Lib.SmallJoins
import Derived.Deep.MidRow
import Derived.Test.YtoilcigmpeaedaaGreatDoorProg
import Derived.Test.YtoilcigmpeaedaaGreatDoorF1
namespace Go.Proofs.YtoilcigmpeaedaaGreatDoor.Col
open Go.RowKit Utf

/-- the bytes lie at the head of block g, none of them frozen -/
def Row (w : World) (g : Nat) (bs : List UInt8) : Prop := ∃ cs fr, w.heap[g]? = some (.cells cs 5 fr) ∧ bs.length ≤ fr.1 ∧ ∀ (j : Nat) (b : UInt8), bs[j]? = some b → cs[j]? = some (.int .u8 (b.toNat : Int))
theorem Row.lt {w : World} {g : Nat} {bs : List UInt8} (h : Row w g bs) : g < w.heap.size := by
  obtain ⟨cs, fr, h, _⟩ := h
  exact (Array.getElem?_eq_some_iff.1 h).1
theorem Row.keep {w w' : World} {g : Nat} {bs : List UInt8} (h : Row w g bs) (hb : Below w.heap.size w w') : Row w' g bs := by
  have hl := h.lt
  obtain ⟨cs, fr, h, r⟩ := h
  exact ⟨cs, fr, (hb.block g hl).trans h, r⟩
theorem Row.cell {w : World} {g : Nat} {bs : List UInt8} (h : Row w g bs) (j : Nat) (b : UInt8) (hj : bs[j]? = some b) : w.cell? ⟨g, j, none⟩ = some (.int .u8 (b.toNat : Int)) := by
  obtain ⟨cs, fr, h, _, hc⟩ := h
  rw [Go.Joins.cell_of_block h]
  exact hc j b hj
theorem Row.rd {w : World} {g : Nat} {bs : List UInt8} (h : Row w g bs) : Rd w (some ⟨g, 0, none⟩) (cB bs) := fun j u hu => by
  have hj : j < bs.length := by rw [← cB_len]; exact (List.getElem?_eq_some_iff.1 hu).1
  have hb : bs[j]? = some bs[j] := by simp [hj]
  rw [cB_at bs j _ hb] at hu
  cases hu
  refine ⟨_, rfl, h.lt, ?_⟩
  rw [Addr.add_mid, Nat.zero_add]
  exact h.cell j _ hb
theorem Row.frozen {w : World} {g : Nat} {bs : List UInt8} (h : Row w g bs) (j : Nat) (hj : j < bs.length) : w.frozen? ⟨g, j, none⟩ = false := by
  obtain ⟨cs, fr, h, hl, _⟩ := h
  simp [World.frozen?, h]
  omega
theorem Row.set {w : World} {g : Nat} {bs : List UInt8} (h : Row w g bs) (j : Nat) (b : UInt8) : Row (w.setCell ⟨g, j, none⟩ (.int .u8 (b.toNat : Int))) g (bs.set j b) := by
  obtain ⟨cs, fr, h, hl, hc⟩ := h
  refine ⟨_, _, Go.Joins.block_setCell h _, by simpa using hl, fun i x hi => ?_⟩
  by_cases e : j = i
  · subst e
    have hj : j < bs.length := by have := (List.getElem?_eq_some_iff.1 hi).1; simpa using this
    rw [List.getElem?_set_self hj] at hi
    cases hi
    have := hc j _ (List.getElem?_eq_getElem hj)
    have hs := (Array.getElem?_eq_some_iff.1 this).1
    simp [hs]
  · rw [List.getElem?_set_ne e] at hi
    rw [Array.getElem?_setIfInBounds_ne e]
    exact hc i x hi
theorem row_new (w : World) (cs : Array Value) (fr : Nat × Nat) (bs : List UInt8) (hf : bs.length ≤ fr.1) (hc : ∀ (j : Nat) (b : UInt8), bs[j]? = some b → cs[j]? = some (.int .u8 (b.toNat : Int))) : Row (w.alloc (.cells cs 5 fr)) w.heap.size bs :=
  ⟨cs, fr, heap_alloc_new w _, hf, hc⟩
theorem run_str {P : Program} (w : World) (src dst e : TypeId) (a : Addr) (n c : Nat) (l : List UInt8) (hn : l.length = n) (hs : P.underlying src = some (.slice e)) (he : P.underlying e = some (.int .u8)) (hd : P.underlying dst = some .string)
    (h : Rd w (some a) (cB l)) : (convert src dst (.slice (some a) n c)).run P w = .ok (.string ⟨l.toArray⟩) w := by
  subst hn
  refine run_convert_bytes_back w src dst e a c l hs he hd fun j hj => ?_
  obtain ⟨ad, e, _, hc⟩ := h j _ (cB_at l j l[j] (by simp [hj]))
  cases e
  exact hc
/-- []byte(s): a new row of the string's bytes -/
theorem run_row {P : Program} (w : World) (src dst : TypeId) (s : ByteArray) (hs : P.underlying src = some .string) (hd : P.underlying dst = some (.slice 5)) (he : P.underlying 5 = some (.int .u8)) :
    ∃ c w', (convert src dst (.string s)).run P w = .ok (.slice (some ⟨w.heap.size, 0, none⟩) s.size c) w' ∧ s.size ≤ c ∧ Row w' w.heap.size s.data.toList ∧ Below w.heap.size w w' ∧ w'.heap.size = w.heap.size + 1 := by
  refine ⟨_, _, run_bytes_of_string w src dst 5 s hs hd he, grownCap_ge _ _ _ _, ?_, ((Below.refl _ w).drew).alloc (Nat.le_refl _) _, by simp⟩
  refine row_new w.drew _ _ _ ?_ ?_
  · simp [bytesRow]
  · intro j b hj
    have hl : j < s.data.size := by have := (List.getElem?_eq_some_iff.1 hj).1; simpa using this
    rw [bytesRow_at s _ j hl]
    have : s.data[j] = b := by
      have := (List.getElem?_eq_some_iff.1 hj).2
      simpa using this
    rw [this]
end Go.Proofs.YtoilcigmpeaedaaGreatDoor.Col
