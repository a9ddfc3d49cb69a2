/-
  SgrMap
-/
import Derived.WalkKit
import Derived.MapKept
import Derived.RangeFuncRecord
import Derived.RangeFuncOwn
import Derived.Test.YteepfecplabinaaDoorProg
import Derived.Test.YteepfecplabinaaDoorP5
namespace Go.Proofs.YteepfecplabinaaDoor.Sgr
open Go.RowKit

/-- a pen as a value -/
def qV (q : Q4) : Value := .agg #[.int .i64 39, .int .i64 q.n, .int .i64 q.m, .int .i64 q.c0, .int .i64 q.c1, .string ⟨#[]⟩]
abbrev KQ := Int × Q4
/-- one entry set: in place, or at the end -/
def upE : List KQ → Int → Q4 → List KQ
  | [], k, q => [(k, q)]
  | (j, p) :: l, k, q => if k = j then (k, q) :: l else (j, p) :: upE l k q
def upsE (l : List KQ) (xs : List KQ) : List KQ := xs.foldl (fun l x => upE l x.1 x.2) l
def entQ : List KQ → Nat → List MapEntry
  | [], _ => []
  | (k, q) :: l, i => ⟨.int .i64 k, qV q, i⟩ :: entQ l (i + 1)
def mapQ (l : List KQ) : Obj := .map (entQ l 0).toArray l.length
def getQ : List KQ → Int → Option Q4
  | [], _ => none
  | (j, p) :: l, k => if k = j then some p else getQ l k
def fndQ : List KQ → Int → Nat → Option (Nat × Value)
  | [], _, _ => none
  | (j, p) :: l, k, i => if k = j then some (i, qV p) else fndQ l k (i + 1)
theorem find_q (l : List KQ) (k : Int) (i j : Nat) : Instr.findNow (.int .i64) (.int .i64 k) (entQ l i) j = some (fndQ l k j) := by
  induction l generalizing i j with
  | nil => rfl
  | cons x l ih =>
    obtain ⟨a, p⟩ := x
    have hs : Instr.sameNow (.int .i64) (.int .i64 k) (.int .i64 a) = some (k == a) := rfl
    rw [entQ, Instr.findNow, hs, fndQ]
    by_cases e : k = a
    · subst e; simp
    · have e2 : (k == a) = false := by simp [e]
      rw [e2, if_neg e]
      exact ih _ _
theorem fnd_get (l : List KQ) (k : Int) (i : Nat) : (fndQ l k i).map (·.2) = (getQ l k).map qV := by
  induction l generalizing i with
  | nil => rfl
  | cons x l ih =>
    obtain ⟨a, p⟩ := x
    rw [fndQ, getQ]
    by_cases e : k = a
    · rw [if_pos e, if_pos e]; rfl
    · rw [if_neg e, if_neg e]; exact ih _
theorem ent_len (l : List KQ) (i : Nat) : (entQ l i).length = l.length := by
  induction l generalizing i with
  | nil => rfl
  | cons x l ih => rw [entQ, List.length_cons, ih, List.length_cons]
theorem fnd_no (l : List KQ) (k : Int) (q : Q4) (i : Nat) (h : fndQ l k i = none) : upE l k q = l ++ [(k, q)] := by
  induction l generalizing i with
  | nil => rfl
  | cons x l ih =>
    obtain ⟨a, p⟩ := x
    rw [fndQ] at h
    by_cases e : k = a
    · rw [if_pos e] at h; cases h
    · rw [if_neg e] at h
      rw [upE, if_neg e, ih _ h]; rfl
theorem ent_snoc (l : List KQ) (x : KQ) (i : Nat) : entQ (l ++ [x]) i = entQ l i ++ [⟨.int .i64 x.1, qV x.2, i + l.length⟩] := by
  induction l generalizing i with
  | nil => rfl
  | cons y l ih =>
    rw [List.cons_append, entQ, entQ, ih, List.cons_append, List.length_cons, show i + 1 + l.length = i + (l.length + 1) by omega]
theorem fnd_yes (l : List KQ) (k : Int) (q : Q4) (i j m : Nat) (v : Value) (h : fndQ l k j = some (m, v)) :
    j ≤ m ∧ ((entQ l i)[m - j]?).map (·.key) = some (.int .i64 k) ∧ (entQ l i).modify (m - j) (fun e => { key := .int .i64 k, val := qV q, born := e.born }) = entQ (upE l k q) i ∧ (upE l k q).length = l.length := by
  induction l generalizing i j with
  | nil => cases h
  | cons x l ih =>
    obtain ⟨a, p⟩ := x
    rw [fndQ] at h
    by_cases e : k = a
    · rw [if_pos e] at h
      injection h with h; injection h with h1 h2
      subst h1; subst e
      rw [Nat.sub_self, upE, if_pos rfl]
      exact ⟨Nat.le_refl _, rfl, rfl, rfl⟩
    · rw [if_neg e] at h
      obtain ⟨h1, h2, h3, h4⟩ := ih (i + 1) (j + 1) h
      rw [show m - j = (m - (j + 1)) + 1 by omega, upE, if_neg e, entQ, entQ]
      refine ⟨by omega, by simpa using h2, ?_, by simp [h4]⟩
      rw [List.modify_succ_cons, h3]
theorem below_putObj {B g : Nat} (W : World) (o : Obj) (hB : B ≤ W.heap.size) (hg : B ≤ g) : Below B W (W.putObj g o) :=
  (Below.refl B W).grown (grownBy_putObj' W g o) hB fun k hk => by cases hk; exact hg
/-- one entry set, as the model runs it -/
theorem up_run (W : World) (g : Nat) (l : List KQ) (k : Int) (q : Q4) (hb : W.heap[g]? = some (mapQ l)) :
    (Instr.mapUpdate 99 (.map (some g)) (.int .i64 k) (qV q)).run Tryd.prog W = .ok () (W.putObj g (mapQ (upE l k q))) := by
  have hb' : W.heap[g]? = some (.map (entQ l 0).toArray l.length) := hb
  have hc : ∀ x, (Instr.checkKey false 10000 3 (.int .i64 k)).run Tryd.prog x = .ok () x := fun x => MapKept.run_checkKey (k := .int .i64 k) Tryd.underlying3 (by simp [MapKept.IsKey]) false 9999
  have hk : Instr.findNow (.int .i64) (.int .i64 k) (entQ l 0).toArray.toList 0 = some (fndQ l k 0) := by
    rw [List.toList_toArray, find_q]
  cases hf : fndQ l k 0 with
  | none =>
    rw [hf] at hk
    have hm : mapQ (upE l k q) = .map ((entQ l 0).toArray.push { key := .int .i64 k, val := qV q, born := l.length }) (l.length + 1) := by
      rw [fnd_no l k q 0 hf]
      unfold mapQ
      rw [ent_snoc, Nat.zero_add]
      simp
    rw [hm]
    simp [Instr.mapUpdate, run_underlying Tryd.underlying99, MapKept.run_getObj_map hb', hc, MapKept.run_findKey Tryd.underlying3 hk, MapKept.run_setObj_map _ hb', Result.andThen, World.putObj]
  | some x =>
    obtain ⟨m, v⟩ := x
    rw [hf] at hk
    obtain ⟨-, h2, h3, h4⟩ := fnd_yes l k q 0 0 m v hf
    rw [Nat.sub_zero] at h2 h3
    have hm : mapQ (upE l k q) = .map ((entQ l 0).toArray.modify m fun e => { key := .int .i64 k, val := qV q, born := e.born }) l.length := by
      unfold mapQ
      rw [← h3, h4]
      simp
    have hst : ((((entQ l 0).toArray)[m]?).map (·.key)).getD (.int .i64 k) = .int .i64 k := by
      rw [List.getElem?_toArray, h2]; rfl
    have hks : ∀ x, (Instr.keyThatStays (.int .i64 k) (.int .i64 k)).run Tryd.prog x = .ok (.int .i64 k) x := fun x => by
      simp [Instr.keyThatStays, Instr.sameBits]
    rw [hm]
    simp only [Instr.mapUpdate]
    simp [run_underlying Tryd.underlying99, MapKept.run_getObj_map hb', hc, MapKept.run_findKey Tryd.underlying3 hk, MapKept.run_setObj_map _ hb', Result.andThen, World.putObj, h2, hks]
/-- a look-up -/
theorem look_q (g : Nat) (w : World) (l : List KQ) (hl : l ≠ []) (h : w.heap[g]? = some (mapQ l)) (k : Int) :
    ∃ z, (Instr.lookup 99 (.map (some g)) (.int .i64 k) true).run Tryd.prog w = .ok (.tuple #[((getQ l k).map qV).getD z, .bool (getQ l k).isSome]) w := by
  have hb : w.heap[g]? = some (.map (entQ l 0).toArray l.length) := h
  have hc : ∀ x, (Instr.checkKey false 10000 3 (.int .i64 k)).run Tryd.prog x = .ok () x := fun x => MapKept.run_checkKey (k := .int .i64 k) Tryd.underlying3 (by simp [MapKept.IsKey]) false 9999
  have he : (entQ l 0).toArray.isEmpty = false := by
    cases l with
    | nil => exact absurd rfl hl
    | cons x l => obtain ⟨a, p⟩ := x; rfl
  have hk : Instr.findNow (.int .i64) (.int .i64 k) (entQ l 0).toArray.toList 0 = some (fndQ l k 0) := by
    rw [List.toList_toArray, find_q]
  have hg := fnd_get l k 0
  cases hf : fndQ l k 0 with
  | none =>
    rw [hf] at hk hg
    have hg' : getQ l k = none := by simpa using hg.symm
    rw [hg']
    refine ⟨?_, ?_⟩
    rotate_left
    · simp [Instr.lookup, run_underlying Tryd.underlying99, MapKept.run_getObj_map hb, he, hc, MapKept.run_findKey Tryd.underlying3 hk, Result.andThen]
      rfl
  | some x =>
    rw [hf] at hk hg
    refine ⟨undef, ?_⟩
    cases hq : getQ l k with
    | none => rw [hq] at hg; simp at hg
    | some p =>
      rw [hq] at hg
      simp at hg
      simp [Instr.lookup, run_underlying Tryd.underlying99, MapKept.run_getObj_map hb, he, hc, MapKept.run_findKey Tryd.underlying3 hk, Result.andThen, hg]

/-- what is set in turn -/
def setT : List Int := [1, 2, 3, 5, 7, 8, 9, 53]
def clrT : List Int := [22, 22, 23, 25, 27, 28, 29, 55]
def firstQ : List KQ := [(0, pq 0 0), (4, pq 3 1), (21, pq 3 2), (24, pq 3 0)]
def pairQ (i : Nat) : List KQ := [(setT.getD i 0, pq 1 ((2 ^ i : Nat) : Int)), (clrT.getD i 0, pq 2 ((2 ^ i : Nat) : Int))]
def noneQ (n : Nat) : List KQ := [(30 + 10 * ((n : Int) - 4) + 9, cq (n : Int) 0 0)]
def shortV (n i : Int) : Int := if i < 8 then 30 + 10 * (n - 4) + i else 30 + 10 * (n - 4) + 52 + i
def idxQ (i : Nat) : List KQ := [(shortV 4 i, cq 4 1 (i : Int)), (shortV 5 i, cq 5 1 (i : Int))]
def tab1 (k : Nat) : List KQ := upsE (upsE [] firstQ) ((List.range k).flatMap pairQ)
def tab2 (k : Nat) : List KQ := upsE (upsE (tab1 8) [(6, pq 1 8), (22, pq 2 3)]) ((List.range k).flatMap fun i => noneQ (4 + i))
def tab3 (k : Nat) : List KQ := upsE (tab2 3) ((List.range k).flatMap idxQ)
def tabQ : List KQ := tab3 16
theorem ups_app (l xs ys : List KQ) : upsE l (xs ++ ys) = upsE (upsE l xs) ys := by simp [upsE]
theorem range_flat (f : Nat → List KQ) (k : Nat) : (List.range (k + 1)).flatMap f = (List.range k).flatMap f ++ f k := by rw [List.range_succ, List.flatMap_append]; simp
theorem tab1_next (k : Nat) : tab1 (k + 1) = upsE (tab1 k) (pairQ k) := by unfold tab1; rw [range_flat, ups_app]
theorem tab2_next (k : Nat) : tab2 (k + 1) = upsE (tab2 k) (noneQ (4 + k)) := by unfold tab2; rw [range_flat, ups_app]
theorem tab3_next (k : Nat) : tab3 (k + 1) = upsE (tab3 k) (idxQ k) := by unfold tab3; rw [range_flat, ups_app]
theorem tab_in : ∀ k : Fin 108, getQ tabQ (k.val : Int) = simV (k.val : Int) := by decide +kernel
theorem get_out (l : List KQ) (k : Int) (h : ∀ x ∈ l, x.1 ≠ k) : getQ l k = none := by
  induction l with
  | nil => rfl
  | cons x l ih =>
    obtain ⟨a, p⟩ := x
    rw [getQ, if_neg (fun e => h (a, p) (by simp) e.symm)]
    exact ih fun y hy => h y (by simp [hy])
theorem tab_keys : ∀ x ∈ tabQ, 0 ≤ x.1 ∧ x.1 < 108 := by decide +kernel
theorem lit_out (v : Int) (h : v < 0 ∨ 108 ≤ v) : simV v = none := by
  have hl : litV v = none := by
    unfold litV
    repeat (rw [if_neg (by omega)])
  simp only [simV, hl]
  rw [if_neg (by omega), if_neg (by omega), if_neg (by omega), if_neg (by omega)]
/-- the map is the chapter's table -/
theorem tab_is (v : Int) : getQ tabQ v = simV v := by
  by_cases h : 0 ≤ v ∧ v < 108
  · have := tab_in ⟨v.toNat, by omega⟩
    simpa [Int.toNat_of_nonneg h.1] using this
  · rw [lit_out v (by omega)]
    refine get_out _ _ fun x hx e => ?_
    have := tab_keys x hx
    omega
end Go.Proofs.YteepfecplabinaaDoor.Sgr
