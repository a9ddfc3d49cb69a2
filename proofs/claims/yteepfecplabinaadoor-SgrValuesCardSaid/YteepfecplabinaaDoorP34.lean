/-
  ParY
-/
import Derived.Laws.OwnMore
import Derived.Test.YteepfecplabinaaDoorP25
import Derived.Test.YteepfecplabinaaDoorP26
namespace Go.Proofs.YteepfecplabinaaDoor.Par
open Go.RowKit Utf

theorem add_at (g n : Nat) : Addr.add ⟨g, 0, none⟩ n = ⟨g, n, none⟩ := by
  unfold Addr.add
  split
  · simp_all
  · simp
/-- own rows, the last one opened -/
def LastP (W : World) (B g cap : Nat) (x : Value) (ls : List (List Int)) (p : List Int) : Prop :=
  ∃ vs, B ≤ g ∧ W.ownsRow B 41 1 (.slice (some ⟨g, 0, none⟩) (ls.length + 1) cap) (ls.length + 1) (vs ++ [x]) ∧ vs.length = ls.length ∧ W.ownsRow B 3 1 x p.length (cI p) ∧
    (∀ (j : Nat) (y : Value) (q : List Int), vs[j]? = some y → ls[j]? = some q → W.ownsRow B 3 1 y q.length (cI q)) ∧ ∀ (j : Nat) (y : Value) (k : Nat), vs[j]? = some y → y.ownBlock = some k → x.ownBlock ≠ some k
theorem OwnE.last {W : World} {B : Nat} {v : Value} {ls : List (List Int)} {p : List Int} (h : OwnE W B v (ls ++ [p])) : ∃ g cap x, v = .slice (some ⟨g, 0, none⟩) (ls.length + 1) cap ∧ LastP W B g cap x ls p := by
  obtain ⟨us, h1, h2, h3, h4⟩ := h
  have hne : us ≠ [] := by rintro rfl; simp at h2
  obtain ⟨vs, x, rfl⟩ := last_of us hne
  rw [List.length_append, List.length_singleton] at h1
  have h2' : vs.length = ls.length := by simpa using h2
  obtain ⟨g, cap, rfl, _, hg, _⟩ := own_some h1 (by omega)
  refine ⟨g, cap, x, rfl, vs, hg, h1, h2', ?_, fun j y q hy hq => ?_, fun j y k hy hk => ?_⟩
  · exact h3 vs.length x p (by simp) (by rw [h2']; simp)
  · exact h3 j y q (by rw [List.getElem?_append_left (List.getElem?_eq_some_iff.1 hy).1]; exact hy) (by rw [List.getElem?_append_left (List.getElem?_eq_some_iff.1 hq).1]; exact hq)
  · refine h4 j y x k ?_ ?_ ?_ hk
    · have := (List.getElem?_eq_some_iff.1 hy).1; simp; omega
    · rw [List.getElem?_append_left (List.getElem?_eq_some_iff.1 hy).1]; exact hy
    · simp
theorem LastP.cell {W : World} {B g cap : Nat} {x : Value} {ls : List (List Int)} {p : List Int} (h : LastP W B g cap x ls p) : W.cell? ⟨g, ls.length, none⟩ = some x ∧ W.frozen? ⟨g, ls.length, none⟩ = false ∧ g < W.heap.size := by
  obtain ⟨vs, hg, h1, h2, -⟩ := h
  obtain ⟨g', cap', e, _, _, hlt⟩ := own_some h1 (by omega)
  cases e
  refine ⟨?_, h1.frozenAt _, hlt⟩
  have := h1.cells (g := g) rfl ls.length x (by rw [← h2]; simp)
  have e : Addr.add ⟨g, 0, none⟩ ls.length = ⟨g, ls.length, none⟩ := add_at _ _
  rwa [e] at this
theorem LastP.keep {W W' : World} {B g cap : Nat} {x : Value} {ls : List (List Int)} {p : List Int} (h : LastP W B g cap x ls p) (hb : Below W.heap.size W W') : LastP W' B g cap x ls p := by
  obtain ⟨vs, hg, h1, h2, h3, h4, h5⟩ := h
  exact ⟨vs, hg, own_below h1 hb, h2, own_below h3 hb, fun j y q hy hq => own_below (h4 j y q hy hq) hb, h5⟩
/-- the last row, a row of its own -/
theorem LastP.row {W : World} {B g cap : Nat} {x : Value} {ls : List (List Int)} {p : List Int} (h : LastP W B g cap x ls p) : W.ownsRow B 3 1 x p.length (cI p) := by
  obtain ⟨vs, _, _, _, h3, _⟩ := h
  exact h3
theorem LastP.rows {W : World} {B g cap : Nat} {x : Value} {ls : List (List Int)} {p : List Int} (h : LastP W B g cap x ls p) :
    ∃ us, W.ownsRow B 41 1 (.slice (some ⟨g, 0, none⟩) (ls.length + 1) cap) (ls.length + 1) us ∧ us.length = (ls ++ [p]).length ∧ ∀ (j : Nat) (y : Value) (q : List Int), us[j]? = some y → (ls ++ [p])[j]? = some q → W.ownsRow B 3 1 y q.length (cI q) := by
  obtain ⟨vs, _, h1, h2, h3, h4, _⟩ := h
  refine ⟨vs ++ [x], h1, by simp [h2], fun j y q hy hq => ?_⟩
  by_cases h : j < vs.length
  · rw [List.getElem?_append_left h] at hy
    rw [List.getElem?_append_left (by omega)] at hq
    exact h4 j y q hy hq
  · rw [List.getElem?_append_right (by omega)] at hy
    rw [List.getElem?_append_right (by omega), ← h2] at hq
    obtain h0 | h0 : j - vs.length = 0 ∨ 0 < j - vs.length := by omega
    · rw [h0] at hy hq
      simp at hy hq
      subst hy; subst hq
      exact h3
    · rw [List.getElem?_eq_none (by simp; omega)] at hy
      cases hy
theorem block_ne {W : World} {B B' g n m cap : Nat} {xs ys : List Value} {y : Value} {e e' : TypeId} (hv : W.ownsRow B e 1 (.slice (some ⟨g, 0, none⟩) n cap) n xs) (hy : W.ownsRow B' e' 1 y m ys) (he : e' ≠ e) : y.ownBlock ≠ some g := by
  rcases hy.2 with ⟨rfl, _⟩ | ⟨g', cap', cur', rfl, _, hh', _⟩
  · simp [Value.ownBlock]
  · rcases hv.2 with ⟨h', _⟩ | ⟨g2, cap2, cur2, h', _, hh, _⟩
    · cases h'
    · cases h'
      simp only [Value.ownBlock, ne_eq, Option.some.injEq]
      rintro rfl
      rw [hh] at hh'
      cases hh'
      exact he rfl
/-- rows put together -/
theorem rl_put {W : World} {B g cap : Nat} {x : Value} {vs : List Value} {ls : List (List Int)} {p : List Int} (h1 : W.ownsRow B 41 1 (.slice (some ⟨g, 0, none⟩) (ls.length + 1) cap) (ls.length + 1) (vs ++ [x])) (h2 : vs.length = ls.length)
    (h3 : RI W x p) (h4 : ∀ (j : Nat) (y : Value) (q : List Int), vs[j]? = some y → ls[j]? = some q → RI W y q) : RL W (.slice (some ⟨g, 0, none⟩) (ls.length + 1) cap) (ls ++ [p]) := by
  refine RL.grew h1 (by simp [h2]) fun j y q hy hq => ?_
  by_cases h : j < vs.length
  · rw [List.getElem?_append_left h] at hy
    rw [List.getElem?_append_left (by omega)] at hq
    exact h4 j y q hy hq
  · rw [List.getElem?_append_right (by omega)] at hy
    rw [List.getElem?_append_right (by omega), ← h2] at hq
    obtain h0 | h0 : j - vs.length = 0 ∨ 0 < j - vs.length := by omega
    · rw [h0] at hy hq
      simp at hy hq
      subst hy; subst hq
      exact h3
    · rw [List.getElem?_eq_none (by simp; omega)] at hy
      cases hy
/-- a new last row stored -/
theorem LastP.colon {W W1 : World} {B B1 g cap : Nat} {x x' : Value} {ls : List (List Int)} {p q : List Int} (h : LastP W B g cap x ls p) (hown : W1.ownsRow B1 3 1 x' q.length (cI q)) (hg : W.grownBy W1 x.ownBlock) :
    RL (W1.setCell ⟨g, ls.length, none⟩ x') (.slice (some ⟨g, 0, none⟩) (ls.length + 1) cap) (ls ++ [q]) ∧ W1.cell? ⟨g, ls.length, none⟩ = some x ∧ W1.frozen? ⟨g, ls.length, none⟩ = false ∧ (Below B W W1 → Below B W (W1.setCell ⟨g, ls.length, none⟩ x')) := by
  obtain ⟨vs, hB, h1, h2, h3, h4, h5⟩ := h
  have k1 := h1.kept hg (.inr (block_ne h1 h3 (by decide)).symm)
  have hs := k1.stored ls.length x'
  have hv : (vs ++ [x]).set ls.length x' = vs ++ [x'] := by rw [← h2]; simp
  rw [hv] at hs
  have hc : W1.cell? ⟨g, ls.length, none⟩ = some x := by
    have := k1.cells (g := g) rfl ls.length x (by rw [← h2]; simp)
    have e : Addr.add ⟨g, 0, none⟩ ls.length = ⟨g, ls.length, none⟩ := add_at _ _
    rwa [e] at this
  refine ⟨rl_put hs.1 h2 (RI.grew (hown.kept hs.2 (.inr (block_ne k1 hown (by decide))))) fun j y r hy hr => ?_, hc, k1.frozenAt _, fun hb => hb.grown hs.2 (by obtain ⟨g', cap', e, _, _, hlt⟩ := own_some k1 (by omega); cases e; omega) (fun k hk => by cases hk; exact hB)⟩
  have hy1 : W1.ownsRow B 3 1 y r.length (cI r) := by
    refine (h4 j y r hy hr).kept hg ?_
    cases hyb : y.ownBlock with
    | none => exact .inl rfl
    | some k => exact .inr (fun e => h5 j y k hy hyb e.symm)
  exact RI.grew (hy1.kept hs.2 (.inr (block_ne k1 hy1 (by decide))))
/-- a number of the last row stored -/
theorem LastP.digit {W : World} {B g cap : Nat} {x : Value} {ls : List (List Int)} {ps : List Int} {z : Int} (z' : Int) (h : LastP W B g cap x ls (ps ++ [z])) :
    ∃ b c, x = .slice (some ⟨b, 0, none⟩) (ps.length + 1) c ∧ W.cell? ⟨b, ps.length, none⟩ = some (.int .i64 z) ∧ W.frozen? ⟨b, ps.length, none⟩ = false ∧ b < W.heap.size ∧
      RL (W.setCell ⟨b, ps.length, none⟩ (.int .i64 z')) (.slice (some ⟨g, 0, none⟩) (ls.length + 1) cap) (ls ++ [ps ++ [z']]) ∧ ∀ W0, Below B W0 W → Below B W0 (W.setCell ⟨b, ps.length, none⟩ (.int .i64 z')) := by
  obtain ⟨vs, hB, h1, h2, h3, h4, h5⟩ := h
  rw [List.length_append, List.length_singleton] at h3
  obtain ⟨b, c, rfl, _, hb, hlt⟩ := own_some h3 (by omega)
  have hs := h3.stored ps.length (.int .i64 z')
  have hv : (cI (ps ++ [z])).set ps.length (.int .i64 z') = cI (ps ++ [z']) := by
    rw [cI_append, cI_append, ← cI_len ps]; simp [cI]
  rw [hv] at hs
  have hc : W.cell? ⟨b, ps.length, none⟩ = some (.int .i64 z) := by
    have := h3.cells (g := b) rfl ps.length (.int .i64 z) (cI_at _ _ _ (by simp))
    have e : Addr.add ⟨b, 0, none⟩ ps.length = ⟨b, ps.length, none⟩ := add_at _ _
    rwa [e] at this
  refine ⟨b, c, rfl, hc, h3.frozenAt _, hlt, rl_put (h1.kept hs.2 (.inr ?_)) h2 (RI.grew hs.1) fun j y r hy hr => ?_, fun W0 h0 => h0.grown hs.2 (by omega) (fun k hk => by cases hk; exact hb)⟩
  · have := block_ne h1 h3 (by decide)
    simp only [Value.ownBlock, ne_eq, Option.some.injEq] at this ⊢
    exact fun e => this e.symm
  · refine RI.grew ((h4 j y r hy hr).kept hs.2 ?_)
    cases hyb : y.ownBlock with
    | none => exact .inl rfl
    | some k => exact .inr (fun e => h5 j y k hy hyb e.symm)
/-- rows of the call's own put together -/
theorem own_put {W : World} {B g cap : Nat} {x : Value} {vs : List Value} {ls : List (List Int)} {p : List Int} (h1 : W.ownsRow B 41 1 (.slice (some ⟨g, 0, none⟩) (ls.length + 1) cap) (ls.length + 1) (vs ++ [x])) (h2 : vs.length = ls.length)
    (h3 : W.ownsRow B 3 1 x p.length (cI p)) (h4 : ∀ (j : Nat) (y : Value) (q : List Int), vs[j]? = some y → ls[j]? = some q → W.ownsRow B 3 1 y q.length (cI q)) : OwnL W B (.slice (some ⟨g, 0, none⟩) (ls.length + 1) cap) (ls ++ [p]) := by
  refine ⟨vs ++ [x], by rw [List.length_append, List.length_singleton]; exact h1, by simp [h2], fun j y q hy hq => ?_⟩
  by_cases h : j < vs.length
  · rw [List.getElem?_append_left h] at hy
    rw [List.getElem?_append_left (by omega)] at hq
    exact h4 j y q hy hq
  · rw [List.getElem?_append_right (by omega)] at hy
    rw [List.getElem?_append_right (by omega), ← h2] at hq
    obtain h0 | h0 : j - vs.length = 0 ∨ 0 < j - vs.length := by omega
    · rw [h0] at hy hq
      simp at hy hq
      subst hy; subst hq
      exact h3
    · rw [List.getElem?_eq_none (by simp; omega)] at hy
      cases hy
theorem OwnL.mono {W : World} {B B' : Nat} {v : Value} {l : List (List Int)} (h : OwnL W B v l) (hB : B' ≤ B) : OwnL W B' v l := by
  obtain ⟨vs, h1, h2, h3⟩ := h
  exact ⟨vs, own_mono h1 hB, h2, fun j x p hx hp => own_mono (h3 j x p hx hp) hB⟩
/-- a store into a block below the base -/
theorem OwnL.grown {W W' : World} {B g : Nat} {v : Value} {l : List (List Int)} (h : OwnL W B v l) (hg : W.grownBy W' (some g)) (hB : g < B) : OwnL W' B v l := by
  obtain ⟨vs, h1, h2, h3⟩ := h
  have key : ∀ {e : TypeId} {u : Value} {n : Nat} {xs : List Value}, W.ownsRow B e 1 u n xs → W'.ownsRow B e 1 u n xs := fun {e u n xs} hr => hr.kept hg (by
    cases hub : u.ownBlock with
    | none => exact .inl rfl
    | some k => exact .inr (fun e => by injection e with e; have := (hr.lt k hub).1; omega))
  exact ⟨vs, key h1, h2, fun j x p hx hp => key (h3 j x p hx hp)⟩
/-- a new last row stored, all rows the call's own -/
theorem LastP.colonO {W W1 : World} {B g cap : Nat} {x x' : Value} {ls : List (List Int)} {p q : List Int} (h : LastP W B g cap x ls p) (hown : W1.ownsRow B 3 1 x' q.length (cI q)) (hg : W.grownBy W1 x.ownBlock) :
    OwnL (W1.setCell ⟨g, ls.length, none⟩ x') B (.slice (some ⟨g, 0, none⟩) (ls.length + 1) cap) (ls ++ [q]) := by
  obtain ⟨vs, hB, h1, h2, h3, h4, h5⟩ := h
  have k1 := h1.kept hg (.inr (block_ne h1 h3 (by decide)).symm)
  have hs := k1.stored ls.length x'
  have hv : (vs ++ [x]).set ls.length x' = vs ++ [x'] := by rw [← h2]; simp
  rw [hv] at hs
  refine own_put hs.1 h2 (hown.kept hs.2 (.inr (block_ne k1 hown (by decide)))) fun j y r hy hr => ?_
  have hy1 : W1.ownsRow B 3 1 y r.length (cI r) := by
    refine (h4 j y r hy hr).kept hg ?_
    cases hyb : y.ownBlock with
    | none => exact .inl rfl
    | some k => exact .inr (fun e => h5 j y k hy hyb e.symm)
  exact hy1.kept hs.2 (.inr (block_ne k1 hy1 (by decide)))
/-- a number of the last row stored, all rows the call's own -/
theorem LastP.digitO {W : World} {B g cap : Nat} {x : Value} {ls : List (List Int)} {ps : List Int} {z : Int} (z' : Int) (h : LastP W B g cap x ls (ps ++ [z])) (b c : Nat) (hx : x = .slice (some ⟨b, 0, none⟩) (ps.length + 1) c) :
    OwnL (W.setCell ⟨b, ps.length, none⟩ (.int .i64 z')) B (.slice (some ⟨g, 0, none⟩) (ls.length + 1) cap) (ls ++ [ps ++ [z']]) := by
  obtain ⟨vs, hB, h1, h2, h3, h4, h5⟩ := h
  rw [List.length_append, List.length_singleton] at h3
  subst hx
  have hs := h3.stored ps.length (.int .i64 z')
  have hv : (cI (ps ++ [z])).set ps.length (.int .i64 z') = cI (ps ++ [z']) := by
    rw [cI_append, cI_append, ← cI_len ps]; simp [cI]
  rw [hv] at hs
  refine own_put (h1.kept hs.2 (.inr ?_)) h2 (by rw [List.length_append, List.length_singleton]; exact hs.1) fun j y r hy hr => ?_
  · have := block_ne h1 h3 (by decide)
    simp only [Value.ownBlock, ne_eq, Option.some.injEq] at this ⊢
    exact fun e => this e.symm
  · refine (h4 j y r hy hr).kept hs.2 ?_
    cases hyb : y.ownBlock with
    | none => exact .inl rfl
    | some k => exact .inr (fun e => h5 j y k hy hyb e.symm)
/-- the slice of one unset parameter, new -/
theorem own_unset (w : World) (B : Nat) (hB : B ≤ w.heap.size) : OwnE ((w.alloc (.cells #[.int .i64 (-1)] 3)).alloc (.cells #[.slice (some ⟨w.heap.size, 0, none⟩) 1 1] 41)) B (.slice (some ⟨w.heap.size + 1, 0, none⟩) 1 1) [[-1]] := by
  have h1 : (w.alloc (.cells #[.int .i64 (-1)] 3)).ownsRow B 3 1 (.slice (some ⟨w.heap.size, 0, none⟩) 1 1) 1 (cI [-1]) := ⟨rfl, .inr ⟨w.heap.size, 1, #[.int .i64 (-1)], rfl, hB, heap_alloc_new w _, Nat.le_refl _, by decide, rfl, rfl⟩⟩
  refine ⟨[.slice (some ⟨w.heap.size, 0, none⟩) 1 1], ⟨rfl, .inr ⟨w.heap.size + 1, 1, #[.slice (some ⟨w.heap.size, 0, none⟩) 1 1], rfl, by omega, ?_, Nat.le_refl _, by decide, rfl, rfl⟩⟩, rfl, fun j x p hx hp => ?_, fun j x y g hj => by simp at hj⟩
  · have := heap_alloc_new (w.alloc (.cells #[.int .i64 (-1)] 3)) (.cells #[.slice (some ⟨w.heap.size, 0, none⟩) 1 1] 41)
    rwa [World.size_alloc] at this
  · match j with
    | 0 =>
      simp at hx hp
      subst hx; subst hp
      exact own_below h1 (below_box _ _)
    | j + 1 => simp at hx
end Go.Proofs.YteepfecplabinaaDoor.Par
