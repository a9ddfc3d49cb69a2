/-
  More of rows of actions: a store into another block or into one element; arrays of styles and of slices that are looked up.
-/
import Derived.Test.YtokjjeekkfefmaaDoorStyV
namespace Go.Proofs.YtokjjeekkfefmaaDoor.Sty
open Go.RowKit Utf Col

theorem OwnP.grown {w w' : World} {base b : Nat} {v : Value} {ps : List P6} (h : OwnP w base v ps) (hg : w.grownBy w' (some b)) (hb : b < base) : OwnP w' base v ps := by
  rcases h with ⟨h0, hv | ⟨g, cap, cur, hv, h1, hh, h2⟩⟩
  · exact ⟨h0, .inl hv⟩
  · exact ⟨h0, .inr ⟨g, cap, cur, hv, h1, (hg.block g (Array.getElem?_eq_some_iff.1 hh).1 (by simp; omega)).trans hh, h2⟩⟩
theorem OwnP.nil {w : World} {base n c : Nat} {ps : List P6} (h : OwnP w base (.slice none n c) ps) : n = 0 := by
  rcases h.2 with ⟨hv, _⟩ | ⟨g, cap, cur, hv, _⟩
  · cases hv; rfl
  · cases hv
theorem OwnP.there {w : World} {base n c g j : Nat} {ps : List P6} (h : OwnP w base (.slice (some ⟨g, 0, none⟩) n c) ps) (hj : j < ps.length) : w.there g (j * 6) 6 := by
  rcases h.2 with ⟨hv, _⟩ | ⟨g', cap, cur, hv, _, hh, hn, _, hs, _⟩
  · cases hv
  · cases hv
    intro i hi
    have hlt : j * 6 + i < cur.size := by rw [hs]; have : (j + 1) * 6 ≤ c * 6 := Nat.mul_le_mul_right _ (by omega); omega
    constructor
    · simp [World.cell?, hh, hlt]
    · simp [World.frozen?, hh]
theorem OwnP.at0 {w : World} {base n c : Nat} {A : Option Addr} {ps : List P6} (h : OwnP w base (.slice A n c) ps) (hn : 0 < n) : ∃ g, A = some ⟨g, 0, none⟩ ∧ base ≤ g ∧ g < w.heap.size := by
  rcases h.2 with ⟨hv, _⟩ | ⟨g, cap, cur, hv, hb, hh, _⟩
  · cases hv; omega
  · cases hv; exact ⟨g, rfl, hb, (Array.getElem?_eq_some_iff.1 hh).1⟩
theorem RdP.put {w : World} {g j : Nat} {ps : List P6} (h : RdP w (some ⟨g, 0, none⟩) ps) (p : P6) (ht : w.there g (j * 6) 6) : RdP (w.setCells g (j * 6) (cP p)) (some ⟨g, 0, none⟩) (ps.set j p) := fun i q hq => by
  have hsz : (w.setCells g (j * 6) (cP p)).heap.size = w.heap.size := sizeCells _ _ _ _
  by_cases hij : j = i
  · subst hij
    rw [List.getElem?_set_self (by simpa using (List.getElem?_eq_some_iff.1 hq).1)] at hq
    cases hq
    have hlt : g < w.heap.size := by
      obtain ⟨v, hv⟩ := Option.isSome_iff_exists.1 (ht 0 (by omega)).1
      exact World.block_lt_of_cell? w _ hv
    exact ⟨g, 0, rfl, by rw [hsz]; exact hlt, by rw [Nat.zero_add]; exact World.rangeAt_setCells_same w g (j * 6) (cP p) ht⟩
  · rw [List.getElem?_set_ne hij] at hq
    obtain ⟨b, o, hA, hlt, hr⟩ := h i q hq
    cases hA
    exact ⟨g, 0, rfl, by rw [hsz]; exact hlt, World.rangeAt_setCells_apart hr g (j * 6) (cP p) (.inr (by show 0 + i * 6 + 6 ≤ j * 6 ∨ j * 6 + 6 ≤ 0 + i * 6; omega))⟩
theorem ix2 (a b : S8) (k : Nat) (hk : k < 2) : ∃ x : S8, ∀ W, (Instr.index 44 (.agg #[.int .i64 a.a, .int .i64 a.u, .int .i64 a.f0, .int .i64 a.f1, .int .i64 a.b0, .int .i64 a.b1, .int .i64 a.l0, .int .i64 a.l1, .int .i64 b.a, .int .i64 b.u, .int .i64 b.f0, .int .i64 b.f1, .int .i64 b.b0, .int .i64 b.b1, .int .i64 b.l0, .int .i64 b.l1]) (.int .i64 (k : Int))).run Tryd.prog W = .ok (.agg #[.int .i64 x.a, .int .i64 x.u, .int .i64 x.f0, .int .i64 x.f1, .int .i64 x.b0, .int .i64 x.b1, .int .i64 x.l0, .int .i64 x.l1]) W := by
  rcases (show k = 0 ∨ k = 1 by omega) with rfl | rfl
  · exact ⟨a, fun _ => by kernel_rfl⟩
  · exact ⟨b, fun _ => by kernel_rfl⟩
theorem ix3 (A0 A1 A2 : Option Addr) (n0 n1 n2 c0 c1 c2 : Nat) (w : World) (p0 p1 p2 : List P6) (h0 : p0.length = n0 ∧ n0 ≤ 100 ∧ RdP w A0 p0) (h1 : p1.length = n1 ∧ n1 ≤ 100 ∧ RdP w A1 p1) (h2 : p2.length = n2 ∧ n2 ≤ 100 ∧ RdP w A2 p2) (k : Nat) (hk : k < 3) :
    ∃ (A : Option Addr) (n c : Nat) (qs : List P6), (qs.length = n ∧ n ≤ 100 ∧ RdP w A qs) ∧ ∀ W, (Instr.index 45 (.agg #[.slice A0 n0 c0, .slice A1 n1 c1, .slice A2 n2 c2]) (.int .i64 (k : Int))).run Tryd.prog W = .ok (.slice A n c) W := by
  rcases (show k = 0 ∨ k = 1 ∨ k = 2 by omega) with rfl | rfl | rfl
  · exact ⟨A0, n0, c0, p0, h0, fun _ => by kernel_rfl⟩
  · exact ⟨A1, n1, c1, p1, h1, fun _ => by kernel_rfl⟩
  · exact ⟨A2, n2, c2, p2, h2, fun _ => by kernel_rfl⟩
end Go.Proofs.YtokjjeekkfefmaaDoor.Sty
