/-
  ParMath
-/
import Derived.WalkKit
namespace Go.Proofs.YteepfecplabinaaDoor.Par

def wrongI (z : Int) : Bool := decide (z < -1) || decide (9999 < z)
def wrongP (p : List Int) : Bool := decide (p.length < 1) || decide (6 < p.length) || p.any wrongI
def isBad (l : List (List Int)) : Bool := decide (16 < l.length) || l.any wrongP || decide (l = [[-1]])
def chkV (l : List (List Int)) : Int := if isBad l then 150 else 0
/-- the last part after a digit -/
def digI (z d : Int) : Int := min (10 * max z 0 + d) 9999
def digP (p : List Int) (d : Int) : List Int := p.dropLast ++ [digI (p.getLastD 0) d]
def opened (l : List (List Int)) : List (List Int) := if l = [] then [[-1]] else l
def digL (l : List (List Int)) (d : Int) : List (List Int) := l.dropLast ++ [digP (l.getLastD []) d]
def parP (p : List Int) : List Int := p ++ [-1]
/-- the parameters, and the error, after one character -/
def stpV (l : List (List Int)) (c : UInt8) : List (List Int) × Int :=
  if isBad l then ([], 150)
  else if 48 ≤ c.toNat ∧ c.toNat ≤ 57 then (digL (opened l) ((c.toNat : Int) - 48), 0)
  else if c.toNat = 58 then if 6 ≤ ((opened l).getLastD []).length then ([], 3) else ((opened l).dropLast ++ [parP ((opened l).getLastD [])], 0)
  else if c.toNat = 59 then if 16 ≤ (opened l).length then ([], 3) else (opened l ++ [[-1]], 0)
  else ([], 6)
def runV : List (List Int) → List UInt8 → List (List Int) × Int
  | l, [] => (l, 0)
  | l, c :: s => if (stpV l c).2 = 0 then runV (stpV l c).1 s else ([], (stpV l c).2)
def prsV (s : List UInt8) : List (List Int) × Int := if 4096 < s.length then ([], 3) else runV [] s
def valV (l : List (List Int)) (i none : Int) : Int :=
  if i < 0 ∨ (l.length : Int) ≤ i then none
  else match l[i.toNat]? with
    | some (z :: _) => if z < 0 then none else z
    | _ => none
theorem runV_take (s : List UInt8) (k : Nat) (c : UInt8) (h : s[k]? = some c) (a : List (List Int)) (b : List (List Int)) (hb : runV a (s.take k) = (b, 0)) (he : (stpV b c).2 = 0) : runV a (s.take (k + 1)) = ((stpV b c).1, 0) := by
  induction s generalizing a k with
  | nil => simp at h
  | cons x s ih =>
    cases k with
    | zero =>
      simp only [List.getElem?_cons_zero, Option.some.injEq] at h
      subst h
      simp only [List.take_zero, runV, Prod.mk.injEq, and_true] at hb
      subst hb
      simp [runV, he]
    | succ k =>
      simp only [List.getElem?_cons_succ] at h
      rw [List.take_succ_cons, runV] at hb
      rw [List.take_succ_cons, runV]
      split at hb
      · rw [if_pos (by assumption)]
        exact ih k h _ hb
      · exact absurd (congrArg Prod.snd hb) (by assumption)
theorem runV_bad (s : List UInt8) (k : Nat) (c : UInt8) (h : s[k]? = some c) (a : List (List Int)) (b : List (List Int)) (hb : runV a (s.take k) = (b, 0)) (he : (stpV b c).2 ≠ 0) : runV a s = ([], (stpV b c).2) := by
  induction s generalizing a k with
  | nil => simp at h
  | cons x s ih =>
    cases k with
    | zero =>
      simp only [List.getElem?_cons_zero, Option.some.injEq] at h
      subst h
      simp only [List.take_zero, runV, Prod.mk.injEq, and_true] at hb
      subst hb
      simp [runV, he]
    | succ k =>
      simp only [List.getElem?_cons_succ] at h
      rw [List.take_succ_cons, runV] at hb
      rw [runV]
      split at hb
      · rw [if_pos (by assumption)]
        exact ih k h _ hb
      · exact absurd (congrArg Prod.snd hb) (by assumption)
theorem any_take {α : Type} (p : α → Bool) (l : List α) (k : Nat) (x : α) (h : l[k]? = some x) : (l.take (k + 1)).any p = ((l.take k).any p || p x) := by
  rw [List.take_add_one, h]; simp
theorem any_hit {α : Type} (p : α → Bool) (l : List α) (k : Nat) (x : α) (h : l[k]? = some x) (hp : p x = true) : l.any p = true := by
  rw [List.any_eq_true]
  exact ⟨x, List.mem_of_getElem? h, hp⟩
end Go.Proofs.YteepfecplabinaaDoor.Par
