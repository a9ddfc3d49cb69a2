/-
  ParP ParX
-/
import Derived.RangeFuncBox
import Derived.Test.YtdgainaeaabieaaDoorM25
namespace Go.Proofs.YtdgainaeaabieaaDoor.Par
open Go.RowKit Utf

def partAt (ps : List UInt16) (k : Nat) : Int := match ps[k]? with
  | some x => ((x.toNat % 10001 : Nat) : Int) - 1
  | none => -1
def manyOf (m : UInt8) : Nat := m.toNat % 6 + 1
def rowP (ps : List UInt16) (k n : Nat) : List Int := (List.range n).map fun j => partAt ps (k + j)
def rowGo (ps : List UInt16) : Nat → List UInt8 → List (List Int)
  | _, [] => []
  | k, m :: r => rowP ps k (manyOf m) :: rowGo ps (k + manyOf m) r
def kAt (k : Nat) : List UInt8 → Nat
  | [] => k
  | m :: r => kAt (k + manyOf m) r
def rowV (ps : List UInt16) (ms : List UInt8) : List (List Int) := if rowGo ps 0 (ms.take 16) = [[-1]] then [] else rowGo ps 0 (ms.take 16)
theorem rowP_succ (ps : List UInt16) (k n : Nat) : rowP ps k (n + 1) = rowP ps k n ++ [partAt ps (k + n)] := by
  unfold rowP; rw [List.range_succ, List.map_append]; rfl
theorem rowP_len (ps : List UInt16) (k n : Nat) : (rowP ps k n).length = n := by simp [rowP]
theorem rowGo_snoc (ps : List UInt16) (k : Nat) (l : List UInt8) (m : UInt8) : rowGo ps k (l ++ [m]) = rowGo ps k l ++ [rowP ps (kAt k l) (manyOf m)] := by
  induction l generalizing k with
  | nil => rfl
  | cons x r ih => rw [List.cons_append, rowGo, ih, rowGo, kAt]; rfl
theorem kAt_snoc (k : Nat) (l : List UInt8) (m : UInt8) : kAt k (l ++ [m]) = kAt k l + manyOf m := by
  induction l generalizing k with
  | nil => rfl
  | cons x r ih => rw [List.cons_append, kAt, ih]; rfl
theorem rowGo_len (ps : List UInt16) (k : Nat) (l : List UInt8) : (rowGo ps k l).length = l.length := by
  induction l generalizing k with
  | nil => rfl
  | cons x r ih => rw [rowGo, List.length_cons, ih, List.length_cons]
theorem kAt_le (k : Nat) (l : List UInt8) : kAt k l ≤ k + 6 * l.length := by
  induction l generalizing k with
  | nil => simp [kAt]
  | cons x r ih =>
    have := ih (k + manyOf x)
    have : manyOf x ≤ 6 := by unfold manyOf; omega
    rw [kAt, List.length_cons]; omega
theorem partAt_in (ps : List UInt16) (k : Nat) : -1 ≤ partAt ps k ∧ partAt ps k ≤ 9999 := by
  unfold partAt
  split <;> omega
theorem rowGo_ok (ps : List UInt16) (k : Nat) (l : List UInt8) : ∀ p ∈ rowGo ps k l, 1 ≤ p.length ∧ p.length ≤ 6 ∧ ∀ z ∈ p, -1 ≤ z ∧ z ≤ 9999 := by
  induction l generalizing k with
  | nil => simp [rowGo]
  | cons x r ih =>
    intro p hp
    rw [rowGo, List.mem_cons] at hp
    rcases hp with rfl | hp
    · refine ⟨by rw [rowP_len]; unfold manyOf; omega, by rw [rowP_len]; unfold manyOf; omega, fun z hz => ?_⟩
      unfold rowP at hz
      obtain ⟨j, _, rfl⟩ := List.mem_map.1 hz
      exact partAt_in _ _
    · exact ih _ p hp
theorem rowV_ok (ps : List UInt16) (ms : List UInt8) : isBad (rowV ps ms) = false := by
  have h := rowGo_ok ps 0 (ms.take 16)
  have hl := rowGo_len ps 0 (ms.take 16)
  unfold rowV
  split
  · decide
  · rename_i hne
    unfold isBad
    simp only [Bool.or_eq_false_iff, decide_eq_false_iff_not, List.any_eq_false]
    refine ⟨⟨by rw [hl, List.length_take]; omega, fun p hp => ?_⟩, hne⟩
    obtain ⟨h1, h2, h3⟩ := h p hp
    unfold wrongP
    simp only [Bool.or_eq_true, decide_eq_true_eq, not_or, List.any_eq_true, not_exists, not_and]
    refine ⟨⟨by omega, by omega⟩, fun z hz => ?_⟩
    have := h3 z hz
    unfold wrongI
    simp only [Bool.or_eq_true, decide_eq_true_eq, not_or]
    omega
def cH (ps : List UInt16) : List Value := ps.map fun x => Value.int .u16 (x.toNat : Int)
theorem cH_at (ps : List UInt16) (k : Nat) (x : UInt16) (h : ps[k]? = some x) : (cH ps)[k]? = some (.int .u16 (x.toNat : Int)) := by simp [cH, h]
/-- rows of numbers in a row of the call's own, each in a row of its own -/
def OwnL (W : World) (B : Nat) (v : Value) (l : List (List Int)) : Prop :=
  ∃ vs, W.ownsRow B 41 1 v l.length vs ∧ vs.length = l.length ∧ ∀ (j : Nat) (x : Value) (p : List Int), vs[j]? = some x → l[j]? = some p → W.ownsRow B 3 1 x p.length (cI p)
theorem OwnL.keep {W W' : World} {B : Nat} {v : Value} {l : List (List Int)} (h : OwnL W B v l) (hb : Below W.heap.size W W') : OwnL W' B v l := by
  obtain ⟨vs, h1, h2, h3⟩ := h
  exact ⟨vs, own_below h1 hb, h2, fun j x p hx hp => own_below (h3 j x p hx hp) hb⟩
theorem OwnL.rl {W : World} {B : Nat} {v : Value} {l : List (List Int)} (h : OwnL W B v l) : RL W v l := by
  obtain ⟨vs, h1, h2, h3⟩ := h
  exact RL.grew h1 h2 (fun j x p hx hp => RI.grew (h3 j x p hx hp))
theorem OwnL.nil (W : World) (B : Nat) : OwnL W B (.slice none 0 0) [] := ⟨[], World.ownsRow_nil _ _ _ _, rfl, fun j x p h => by simp at h⟩
theorem own_apart {W w' : World} {B n m : Nat} {e e' : TypeId} {u v : Value} {xs ys : List Value} (hu : W.ownsRow B e 1 u n xs) (hv : W.ownsRow B e' 1 v m ys) (he : e ≠ e') (hg : W.grownBy w' v.ownBlock) : w'.ownsRow B e 1 u n xs := by
  refine hu.kept hg ?_
  rcases hu.2 with ⟨rfl, _⟩ | ⟨g, cap, cur, rfl, _, hh, _⟩
  · exact .inl rfl
  · right
    rcases hv.2 with ⟨rfl, _⟩ | ⟨g', cap', cur', rfl, _, hh', _⟩
    · simp [Value.ownBlock]
    · simp [Value.ownBlock]
      rintro rfl
      rw [hh] at hh'
      cases hh'
      exact he rfl
theorem OwnL.snoc {W w' : World} {B n : Nat} {v v' x : Value} {vs : List Value} {l : List (List Int)} {p : List Int} (h1 : W.ownsRow B 41 1 v n vs) (h2 : vs.length = l.length)
    (h3 : ∀ (j : Nat) (y : Value) (q : List Int), vs[j]? = some y → l[j]? = some q → W.ownsRow B 3 1 y q.length (cI q)) (hx : W.ownsRow B 3 1 x p.length (cI p))
    (hown : w'.ownsRow B 41 1 v' (n + 1) (vs ++ [x])) (hg : W.grownBy w' v.ownBlock) : OwnL w' B v' (l ++ [p]) := by
  have hn : n = vs.length := by have := h1.1; omega
  refine ⟨vs ++ [x], by rw [List.length_append, List.length_singleton, ← h2, ← hn]; exact hown, by simp [h2], fun j y q hy hq => ?_⟩
  have key : W.ownsRow B 3 1 y q.length (cI q) := by
    by_cases h : j < vs.length
    · rw [List.getElem?_append_left h] at hy
      rw [List.getElem?_append_left (by omega)] at hq
      exact h3 j y q hy hq
    · rw [List.getElem?_append_right (by omega)] at hy
      rw [List.getElem?_append_right (by omega), ← h2] at hq
      obtain h0 | h0 : j - vs.length = 0 ∨ 0 < j - vs.length := by omega
      · rw [h0] at hy hq
        simp at hy hq
        subst hy; subst hq
        exact hx
      · rw [List.getElem?_eq_none (by simp; omega)] at hy
        cases hy
  exact own_apart key h1 (by decide) hg
/-- a box of a parameter, its row of numbers stored back -/
theorem boxed_int {B n' : Nat} {B0 : Nat} {W w1 : World} {v v' : Value} {xs' : List Value} (hv : Boxed W B 41 v) (hown : w1.ownsRow B0 3 1 v' n' xs') (hne : some B ≠ v.ownBlock) (hg : W.grownBy w1 v.ownBlock) :
    Boxed w1 B 41 v ∧ Boxed (w1.setCell ⟨B, 0, none⟩ v') B 41 v' ∧ (w1.setCell ⟨B, 0, none⟩ v').ownsRow B0 3 1 v' n' xs' := by
  have hv1 : Boxed w1 B 41 v := hv.kept hg hne
  exact ⟨hv1, hv1.set v', hown.kept (grownBy_setCell' w1 B v') (.inr (hv1.not_row (by decide) hown).symm)⟩
end Go.Proofs.YtdgainaeaabieaaDoor.Par

namespace Go.Proofs.YtdgainaeaabieaaDoor.Par
open Go.RowKit Utf

theorem own_empty (w : World) (B : Nat) (hB : B ≤ w.heap.size) : (w.alloc (.cells #[] 3)).ownsRow B 3 1 (.slice (some ⟨w.heap.size, 0, none⟩) 0 0) 0 [] :=
  ⟨rfl, .inr ⟨w.heap.size, 0, #[], rfl, hB, heap_alloc_new w _, Nat.le_refl _, Nat.zero_le _, rfl, rfl⟩⟩
/-- the same, and the last row lies apart from the others -/
def OwnE (W : World) (B : Nat) (v : Value) (l : List (List Int)) : Prop :=
  ∃ vs, W.ownsRow B 41 1 v l.length vs ∧ vs.length = l.length ∧ (∀ (j : Nat) (x : Value) (p : List Int), vs[j]? = some x → l[j]? = some p → W.ownsRow B 3 1 x p.length (cI p)) ∧
    ∀ (j : Nat) (x y : Value) (g : Nat), j + 1 < vs.length → vs[j]? = some x → vs[vs.length - 1]? = some y → x.ownBlock = some g → y.ownBlock ≠ some g
theorem OwnE.ownL {W : World} {B : Nat} {v : Value} {l : List (List Int)} (h : OwnE W B v l) : OwnL W B v l := by
  obtain ⟨vs, h1, h2, h3, _⟩ := h
  exact ⟨vs, h1, h2, h3⟩
theorem OwnE.keep {W W' : World} {B : Nat} {v : Value} {l : List (List Int)} (h : OwnE W B v l) (hb : Below W.heap.size W W') : OwnE W' B v l := by
  obtain ⟨vs, h1, h2, h3, h4⟩ := h
  exact ⟨vs, own_below h1 hb, h2, fun j x p hx hp => own_below (h3 j x p hx hp) hb, h4⟩
theorem OwnE.nil (W : World) (B : Nat) : OwnE W B (.slice none 0 0) [] := ⟨[], World.ownsRow_nil _ _ _ _, rfl, fun j x p h => by simp at h, fun j x y g h => by simp at h⟩
theorem OwnE.snoc {W w' : World} {B n : Nat} {v v' x : Value} {vs : List Value} {l : List (List Int)} {p : List Int} (h1 : W.ownsRow B 41 1 v n vs) (h2 : vs.length = l.length)
    (h3 : ∀ (j : Nat) (y : Value) (q : List Int), vs[j]? = some y → l[j]? = some q → W.ownsRow B 3 1 y q.length (cI q)) (hx : W.ownsRow B 3 1 x p.length (cI p))
    (hown : w'.ownsRow B 41 1 v' (n + 1) (vs ++ [x])) (hg : W.grownBy w' v.ownBlock) (ha : ∀ (j : Nat) (y : Value) (g : Nat), vs[j]? = some y → y.ownBlock = some g → x.ownBlock ≠ some g) : OwnE w' B v' (l ++ [p]) := by
  have hn : n = vs.length := by have := h1.1; omega
  refine ⟨vs ++ [x], by rw [List.length_append, List.length_singleton, ← h2, ← hn]; exact hown, by simp [h2], fun j y q hy hq => ?_, fun j y z g hj hy hz hyg => ?_⟩
  · have key : W.ownsRow B 3 1 y q.length (cI q) := by
      by_cases h : j < vs.length
      · rw [List.getElem?_append_left h] at hy
        rw [List.getElem?_append_left (by omega)] at hq
        exact h3 j y q hy hq
      · rw [List.getElem?_append_right (by omega)] at hy
        rw [List.getElem?_append_right (by omega), ← h2] at hq
        obtain h0 | h0 : j - vs.length = 0 ∨ 0 < j - vs.length := by omega
        · rw [h0] at hy hq
          simp at hy hq
          subst hy; subst hq
          exact hx
        · rw [List.getElem?_eq_none (by simp; omega)] at hy
          cases hy
    exact own_apart key h1 (by decide) hg
  · rw [List.length_append, List.length_singleton] at hj hz
    rw [List.getElem?_append_left (by omega)] at hy
    rw [List.getElem?_append_right (by omega), show vs.length + 1 - 1 - vs.length = 0 by omega] at hz
    simp at hz
    subst hz
    exact ha j y g hy hyg
end Go.Proofs.YtdgainaeaabieaaDoor.Par
