/-
  Value, of the program and of the reference.
-/
import Derived.Test.YtefkbdmgplfgoaaGreatDoorParB
namespace Go.Proofs.YtefkbdmgplfgoaaGreatDoor.Par
open Go.RowKit Utf

theorem RL.form {w : World} {v : Value} {l : List (List Int)} (h : RL w v l) : ∃ A c, v = .slice A l.length c := by
  obtain ⟨A, c, vs, rfl, -⟩ := h
  exact ⟨A, c, rfl⟩
theorem RL.item {w : World} {A : Option Addr} {n c : Nat} {l : List (List Int)} (h : RL w (.slice A n c) l) {k : Nat} {p : List Int} (hp : l[k]? = some p) : ∃ ad B cc, A = some ad ∧ ad.block < w.heap.size ∧ w.cell? (ad.add k) = some (.slice B p.length cc) ∧ p.length ≤ cc ∧ Rd w B (cI p) := by
  obtain ⟨A', c', vs, he, h1, h2, h3, h4, h5, h6⟩ := h
  have hk : k < l.length := (List.getElem?_eq_some_iff.1 hp).1
  obtain ⟨x, hx⟩ := get_some vs k (by omega)
  obtain ⟨B, cc, rfl, g1, _, _, g4⟩ := h6 k x p hx hp
  obtain ⟨ad, rfl, hlt, hc⟩ := h5 k _ hx
  cases he
  exact ⟨ad, B, cc, rfl, hlt, hc, g1, g4⟩
end Go.Proofs.YtefkbdmgplfgoaaGreatDoor.Par
