/-
  The maths of the laws' title.
-/
import Derived.Test.YtoilcigmpeaedaaGreatDoorOscMath
namespace Go.Proofs.YtoilcigmpeaedaaGreatDoor.Osc
open Utf Col

/-- a code point that a title may have -/
def okT (c : Int) : Bool := chk c && !badC c
def fixC (c : Int) : Int := if okT c = true then c else 32 + (c % 18446744073709551616) % 95
def addT (s : List UInt8) (c : Int) : List UInt8 := if s.length + (encL (fixC c)).length ≤ 510 then s ++ encL (fixC c) else s
def titF (l : List Int) : List UInt8 := (l.take 200).foldl addT []
theorem fix_ok (c : Int) : okT (fixC c) = true := by
  unfold fixC
  split
  · assumption
  · have h1 : 0 ≤ (c % 18446744073709551616) % 95 ∧ (c % 18446744073709551616) % 95 < 95 := by omega
    obtain ⟨h2, h3⟩ := h1
    generalize (c % 18446744073709551616) % 95 = x at h2 h3
    unfold okT chk badC
    simp
    omega
theorem okT_rep (c : Int) (h : okT c = true) : rep c = c := by
  unfold okT at h
  rw [Bool.and_eq_true] at h
  unfold rep
  rw [if_pos h.1]
theorem tit_text (zs : List Int) (h : zs.all okT = true) (hl : (textL zs).length ≤ 510) : titB (textL zs) = true := by
  have h1 : codesL (textL zs) = zs := by
    rw [codes_text]
    have : ∀ l : List Int, l.all okT = true → l.map rep = l := by
      intro l
      induction l with
      | nil => intro _; rfl
      | cons x r ih =>
        intro h
        rw [List.all_cons, Bool.and_eq_true] at h
        rw [List.map_cons, okT_rep x h.1, ih h.2]
    exact this zs h
  unfold titB
  rw [h1, decide_eq_true hl, decide_eq_true rfl, Bool.and_true, Bool.true_and, List.all_eq_true]
  intro x hx
  have := List.all_eq_true.1 h x hx
  unfold okT at this
  rw [Bool.and_eq_true] at this
  exact this.2
theorem fold_ok (l : List Int) : ∃ zs : List Int, l.foldl addT [] = textL zs ∧ zs.all okT = true ∧ (textL zs).length ≤ 510 := by
  have : ∀ (l : List Int) (zs : List Int), zs.all okT = true → (textL zs).length ≤ 510 → ∃ ys : List Int, l.foldl addT (textL zs) = textL ys ∧ ys.all okT = true ∧ (textL ys).length ≤ 510 := by
    intro l
    induction l with
    | nil => exact fun zs h h2 => ⟨zs, rfl, h, h2⟩
    | cons x r ih =>
      intro zs h h2
      rw [List.foldl_cons]
      by_cases hx : (textL zs).length + (encL (fixC x)).length ≤ 510
      · have e : addT (textL zs) x = textL (zs ++ [fixC x]) := by rw [addT, if_pos hx, textL_snoc]
        rw [e]
        refine ih _ ?_ ?_
        · rw [List.all_append, h, List.all_cons, fix_ok]; rfl
        · rw [textL_snoc, List.length_append]; exact hx
      · have e : addT (textL zs) x = textL zs := by rw [addT, if_neg hx]
        rw [e]
        exact ih zs h h2
  exact this l [] rfl (by decide)
theorem titF_ok (l : List Int) : titB (titF l) = true := by
  obtain ⟨zs, h1, h2, h3⟩ := fold_ok (l.take 200)
  unfold titF
  rw [h1]
  exact tit_text zs h2 h3
theorem titF_len (l : List Int) : (titF l).length ≤ 510 := by
  obtain ⟨zs, h1, h2, h3⟩ := fold_ok (l.take 200)
  unfold titF
  rw [h1]
  exact h3
theorem fold_len (l : List Int) : (l.foldl addT []).length ≤ 510 := by
  obtain ⟨zs, h1, h2, h3⟩ := fold_ok l
  rw [h1]
  exact h3
theorem fold_snoc (zs : List Int) (k : Nat) (z : Int) (hz : zs[k]? = some z) : (zs.take (k + 1)).foldl addT [] = addT ((zs.take k).foldl addT []) z := by
  rw [List.take_add_one, hz]
  simp [List.foldl_append]
end Go.Proofs.YtoilcigmpeaedaaGreatDoor.Osc
