/-
  SgrS
-/
import Derived.Test.YtdgainaeaabieaaDoorL32
import Derived.Test.YtdgainaeaabieaaDoorL33
namespace Go.Proofs.YtdgainaeaabieaaDoor.Sgr
open Go.RowKit Utf

theorem own_setC {W : World} {base g n c size : Nat} {e : TypeId} {xs : List Value} (h : W.ownsRow base e size (.slice (some ⟨g, 0, none⟩) n c) n xs) (o : Nat) (v : Value) :
    (W.setCell ⟨g, o, none⟩ v).ownsRow base e size (.slice (some ⟨g, 0, none⟩) n c) n (xs.set o v) := by
  obtain ⟨h0, hv | ⟨g', cap, cur, hv, h1, h2, h3, h4, h5, h6⟩⟩ := h
  · cases hv.1
  · cases hv
    refine ⟨by rw [List.length_set]; exact h0, .inr ⟨g, c, cur.setIfInBounds o v, rfl, h1, ?_, h3, h4, by rw [Array.size_setIfInBounds]; exact h5, ?_⟩⟩
    · obtain ⟨hlt, hk⟩ := Array.getElem?_eq_some_iff.1 h2
      show (W.heap.modify g _)[g]? = _
      rw [Array.getElem?_eq_getElem (by rw [Array.size_modify]; exact hlt), Array.getElem_modify_self, hk]
      rfl
    · rw [Array.toList_setIfInBounds, ← h6, List.take_set]
theorem flat_set (ps : List Sty.P6) (j : Nat) (p : Sty.P6) (hj : j < ps.length) :
    ((((((ps.flatMap Sty.cP).set (j * 6) (.int .i64 p.k)).set (j * 6 + 1) (.int .i64 p.n)).set (j * 6 + 2) (.int .i64 p.m)).set (j * 6 + 3) (.int .i64 p.c0)).set (j * 6 + 4) (.int .i64 p.c1)).set (j * 6 + 5) (.string p.t) = (ps.set j p).flatMap Sty.cP := by
  induction ps generalizing j with
  | nil => simp at hj
  | cons x r ih =>
    cases j with
    | zero => simp [Sty.cP]
    | succ j =>
      have := ih j (by simpa using hj)
      rw [List.set_cons_succ, List.flatMap_cons, List.flatMap_cons, ← this]
      rw [show (j + 1) * 6 = (Sty.cP x).length + j * 6 by simp [Sty.cP]; omega]
      simp [List.set_append_right, Nat.add_assoc]
/-- a row of pens, one of them set -/
theorem ownP_set {W : World} {base g n c : Nat} {ps : List Sty.P6} (h : Sty.OwnP W base (.slice (some ⟨g, 0, none⟩) n c) ps) (hn : n = ps.length) (j : Nat) (p : Sty.P6) (hj : j < ps.length) :
    Sty.OwnP ((((((W.setCell ⟨g, j * 6, none⟩ (.int .i64 p.k)).setCell ⟨g, j * 6 + 1, none⟩ (.int .i64 p.n)).setCell ⟨g, j * 6 + 2, none⟩ (.int .i64 p.m)).setCell ⟨g, j * 6 + 3, none⟩ (.int .i64 p.c0)).setCell ⟨g, j * 6 + 4, none⟩ (.int .i64 p.c1)).setCell ⟨g, j * 6 + 5, none⟩ (.string p.t)) base (.slice (some ⟨g, 0, none⟩) n c) (ps.set j p) := by
  subst hn
  have hl : (ps.flatMap Sty.cP).length = ps.length * 6 := Sty.flat_len ps
  have h1 := own_setC h (j * 6) (.int .i64 p.k)
  have h2 := own_setC h1 (j * 6 + 1) (.int .i64 p.n)
  have h3 := own_setC h2 (j * 6 + 2) (.int .i64 p.m)
  have h4 := own_setC h3 (j * 6 + 3) (.int .i64 p.c0)
  have h5 := own_setC h4 (j * 6 + 4) (.int .i64 p.c1)
  have h6 := own_setC h5 (j * 6 + 5) (.string p.t)
  rw [flat_set ps j p hj] at h6
  unfold Sty.OwnP
  rw [List.length_set]
  exact h6
theorem made17 : (madeCells (Value.agg #[.int .i64 0, .int .i64 0, .int .i64 0, .int .i64 0, .int .i64 0, .string ⟨#[]⟩]).cells (17 * 6)).toList = (List.replicate 17 zP).flatMap Sty.cP := by kernel_rfl
theorem ix_0 (g n c k : Nat) (h : k < n) (w : World) : (Instr.indexAt 31 (.slice (some ⟨g, 0, none⟩) n c) (.int .i64 (k : Int))).run Tryd.prog w = .ok (.pointer (some ⟨g, k * 6, none⟩)) w := by
  have := Sty.ix_run g 0 n c k h w
  rwa [Nat.zero_add] at this
theorem own_cells {W : World} {base g n c : Nat} {ps : List Sty.P6} (h : Sty.OwnP W base (.slice (some ⟨g, 0, none⟩) n c) ps) (k : Nat) (p : Sty.P6) (hp : ps[k]? = some p) :
    W.rangeAt g (k * 6) (Sty.cP p) ∧ ∀ j, j < 6 → W.frozen? ⟨g, k * 6 + j, none⟩ = false := by
  obtain ⟨b, o, hA, hlt, hr⟩ := h.rd k p hp
  cases hA
  rw [Nat.zero_add] at hr
  have ht := h.there (j := k) (List.getElem?_eq_some_iff.1 hp).1
  exact ⟨hr, fun j hj => (ht j hj).2⟩
theorem rep_at {α : Type} (a z : α) (k m : Nat) (hm : 0 < m) : (List.replicate k a ++ List.replicate m z)[k]? = some z := by
  rw [List.getElem?_append_right (by simp), List.length_replicate, Nat.sub_self, List.getElem?_replicate]
  simp [hm]
theorem below_6k {B : Nat} {a w : World} (g o : Nat) (p : Sty.P6) (h : Below B a w) (hb : B ≤ g) : Below B a ((((((w.setCell ⟨g, o, none⟩ (.int .i64 p.k)).setCell ⟨g, o + 1, none⟩ (.int .i64 p.n)).setCell ⟨g, o + 2, none⟩ (.int .i64 p.m)).setCell ⟨g, o + 3, none⟩ (.int .i64 p.c0)).setCell ⟨g, o + 4, none⟩ (.int .i64 p.c1)).setCell ⟨g, o + 5, none⟩ (.string p.t)) :=
  (((((h.setCell (p := ⟨g, o, none⟩) hb _).setCell (p := ⟨g, o + 1, none⟩) hb _).setCell (p := ⟨g, o + 2, none⟩) hb _).setCell (p := ⟨g, o + 3, none⟩) hb _).setCell (p := ⟨g, o + 4, none⟩) hb _).setCell (p := ⟨g, o + 5, none⟩) hb _
theorem own_base {W : World} {base g n c : Nat} {ps : List Sty.P6} (h : Sty.OwnP W base (.slice (some ⟨g, 0, none⟩) n c) ps) (hn : 0 < n) : base ≤ g := by
  obtain ⟨g', hA, hb, -⟩ := h.at0 hn
  cases hA
  exact hb
def manyP (k : Nat) : List Sty.P6 := List.replicate k (pP (pq 0 0)) ++ List.replicate (17 - k) zP
theorem many_len (k : Nat) (h : k ≤ 17) : (manyP k).length = 17 := by unfold manyP; rw [List.length_append, List.length_replicate, List.length_replicate]; omega
theorem many_at (k : Nat) (h : k < 17) : (manyP k)[k]? = some zP := rep_at _ _ _ _ (by omega)
theorem rep_set {α : Type} (a z : α) (k m : Nat) : (List.replicate k a ++ List.replicate (m + 1) z).set k a = List.replicate (k + 1) a ++ List.replicate m z := by
  induction k with
  | zero => rfl
  | succ k ih =>
    rw [List.replicate_succ, List.cons_append, List.set_cons_succ, ih]
    rfl
theorem many_set (k : Nat) (h : k < 17) : (manyP k).set k (pP (pq 0 0)) = manyP (k + 1) := by
  unfold manyP
  rw [show 17 - k = (17 - (k + 1)) + 1 by omega, rep_set]
def bentP : List Sty.P6 := List.replicate 16 (pP (pq 0 0)) ++ [pP (pq 0 1)]
theorem bent_is : ((manyP 17).flatMap Sty.cP).set 98 (.int .i64 1) = bentP.flatMap Sty.cP := by kernel_rfl
/-- Pens at a row of parameters -/
theorem pens_is (W : World) (he : Env W) (v : Value) (l : List (List Int)) (h : Par.RL W v l) (hl : Par.Sz l) (r : List Q4 × Int) (hv : pensV l = r) :
    Calls Tryd.prog 13 #[v] W fun e w' => (∃ B d, e = .returned (.tuple #[.slice B r.1.length d, .int .i64 r.2]) ∧ Sty.RdP w' B (pPs r.1)) ∧ Below W.heap.size W w' := by
  refine (pens_any v l W he h hl.1 hl.2).mono ?_
  subst hv
  rintro e w' ⟨v, rfl, hv, hb⟩
  obtain ⟨B, d, rfl, hr⟩ := own_form hv
  exact ⟨⟨B, d, rfl, hr⟩, hb⟩
theorem pens_unset (W : World) (he : Env W) : Calls Tryd.prog 13 #[.slice (some ⟨W.heap.size + 1, 0, none⟩) 1 1] ((W.alloc (.cells #[.int .i64 (-1)] 3)).alloc (.cells #[.slice (some ⟨W.heap.size, 0, none⟩) 1 1] 41)) fun e w' => (∃ B d, e = .returned (.tuple #[.slice B 0 d, .int .i64 150])) ∧ Below W.heap.size W w' := by
  have hb : Below W.heap.size W ((W.alloc (.cells #[.int .i64 (-1)] 3)).alloc (.cells #[.slice (some ⟨W.heap.size, 0, none⟩) 1 1] 41)) := Par.up (below_box _ _) (below_box _ _)
  refine (pens_is _ (he.keep hb) _ [[-1]] (Par.own_unset W 0 (Nat.zero_le _)).ownL.rl ⟨by decide, by decide⟩ ([], 150) (by decide)).mono ?_
  rintro e w' ⟨⟨B, d, rfl, -⟩, hb2⟩
  exact ⟨⟨B, d, rfl⟩, Par.up hb hb2⟩
end Go.Proofs.YtdgainaeaabieaaDoor.Sgr
