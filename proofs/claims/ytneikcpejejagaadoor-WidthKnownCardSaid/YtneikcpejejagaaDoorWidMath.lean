/-
  Plain facts on widths: what Of, Text and Cut compute, as functions of numbers and lists; no program is named here.
-/
import Derived.Test.YtneikcpejejagaaDoorUtfN
namespace Go.Proofs.YtneikcpejejagaaDoor.Wid
open Utf

/-- is a number in one of the ranges -/
def inR : List (Int × Int) → Int → Bool
  | [], _ => false
  | p :: r, c => (decide (p.1 ≤ c) && decide (c ≤ p.2)) || inR r c
def ctlT : List (Int × Int) := [(0, 31), (127, 159)]
def zeroT : List (Int × Int) := [(768, 879), (1155, 1161), (1425, 1469), (1552, 1562), (1611, 1631), (6832, 6911), (7616, 7679), (8203, 8207), (8400, 8447), (65024, 65039), (65056, 65071)]
def twoT : List (Int × Int) := [(4352, 4447), (11904, 12350), (12353, 13311), (13312, 19903), (19968, 40959), (40960, 42191), (44032, 55203), (63744, 64255), (65072, 65135), (65280, 65376), (65504, 65510), (127744, 128591), (128640, 128767), (129280, 129535), (131072, 262141)]
/-- the width of a number -/
def wid (c : Int) : Int := if chk c = false then -1 else if inR ctlT c = true then -1 else if inR zeroT c = true then 0 else if inR twoT c = true then 2 else 1
/-- the same, where a negative width counts as 0 -/
def wp (c : Int) : Int := max (wid c) 0
def colsL : List Int → Int
  | [] => 0
  | c :: r => wp c + colsL r
/-- how many of the first numbers fit into k columns -/
def cutN : List Int → Int → Nat
  | [], _ => 0
  | c :: r, k => if wp c ≤ k then cutN r (k - wp c) + 1 else 0

theorem wid_bd (c : Int) : -1 ≤ wid c ∧ wid c ≤ 2 := by unfold wid; split <;> (try split) <;> (try split) <;> (try split) <;> omega
theorem wp_bd (c : Int) : 0 ≤ wp c ∧ wp c ≤ 2 := by have := wid_bd c; unfold wp; omega
theorem colsL_bd (l : List Int) : 0 ≤ colsL l ∧ colsL l ≤ 2 * l.length := by
  induction l with
  | nil => simp [colsL]
  | cons c r ih => have := wp_bd c; simp only [colsL, List.length_cons]; omega
theorem colsL_app (a b : List Int) : colsL (a ++ b) = colsL a + colsL b := by
  induction a with
  | nil => simp [colsL]
  | cons c r ih => simp only [List.cons_append, colsL, ih]; omega
theorem colsL_take (l : List Int) (k : Nat) (z : Int) (h : l[k]? = some z) : colsL (l.take (k + 1)) = colsL (l.take k) + wp z := by
  rw [List.take_add_one, h, colsL_app]; simp [colsL]
theorem cutN_le (l : List Int) (k : Int) : cutN l k ≤ l.length := by
  induction l generalizing k with
  | nil => simp [cutN]
  | cons c r ih =>
    unfold cutN
    split
    · have := ih (k - wp c); simp only [List.length_cons]; omega
    · omega
theorem cutN_neg (l : List Int) (k : Int) (h : k < 0) : cutN l k = 0 := by
  cases l with
  | nil => rfl
  | cons c r => have := wp_bd c; unfold cutN; rw [if_neg (by omega)]
theorem cutN_go (l : List Int) (n : Nat) (z k : Int) (h : l[n]? = some z) (hz : wp z ≤ k) : cutN (l.drop n) k = cutN (l.drop (n + 1)) (k - wp z) + 1 := by
  have hn : n < l.length := (List.getElem?_eq_some_iff.1 h).1
  have hg : l[n] = z := (List.getElem?_eq_some_iff.1 h).2
  rw [List.drop_eq_getElem_cons hn, hg]
  show (if wp z ≤ k then _ else _) = _
  rw [if_pos hz]
theorem cutN_stop (l : List Int) (n : Nat) (z k : Int) (h : l[n]? = some z) (hz : ¬ wp z ≤ k) : cutN (l.drop n) k = 0 := by
  have hn : n < l.length := (List.getElem?_eq_some_iff.1 h).1
  have hg : l[n] = z := (List.getElem?_eq_some_iff.1 h).2
  rw [List.drop_eq_getElem_cons hn, hg]
  show (if wp z ≤ k then _ else _) = _
  rw [if_neg hz]
/-- what has been taken after n rounds -/
def CutAt (l : List Int) (k : Int) (n : Nat) : Prop := n ≤ l.length ∧ n + cutN (l.drop n) (k - colsL (l.take n)) = cutN l k
theorem CutAt.zero (l : List Int) (k : Int) : CutAt l k 0 := ⟨Nat.zero_le _, by simp [colsL]⟩
theorem CutAt.next {l : List Int} {k : Int} {n : Nat} {z : Int} (h : CutAt l k n) (hz : l[n]? = some z) (hf : colsL (l.take n) + wp z ≤ k) : CutAt l k (n + 1) := by
  have hn : n < l.length := (List.getElem?_eq_some_iff.1 hz).1
  refine ⟨hn, ?_⟩
  have := h.2
  rw [cutN_go l n z _ hz (by omega)] at this
  rw [colsL_take l n z hz, show k - (colsL (l.take n) + wp z) = k - colsL (l.take n) - wp z by omega]
  omega
theorem CutAt.stop {l : List Int} {k : Int} {n : Nat} {z : Int} (h : CutAt l k n) (hz : l[n]? = some z) (hf : ¬ colsL (l.take n) + wp z ≤ k) : n = cutN l k := by
  have := h.2
  rw [cutN_stop l n z _ hz (by omega)] at this
  omega
theorem CutAt.full {l : List Int} {k : Int} {n : Nat} (h : CutAt l k n) (hn : l.length ≤ n) : n = cutN l k := by
  have := h.2
  rw [List.drop_of_length_le hn] at this
  simpa [cutN] using this
/-- what is taken fits -/
theorem cutN_fits (l : List Int) (k : Int) (hk : 0 ≤ k) : colsL (l.take (cutN l k)) ≤ k := by
  induction l generalizing k with
  | nil => simpa [colsL] using hk
  | cons c r ih =>
    unfold cutN
    split
    · have := ih (k - wp c) (by omega)
      simp only [List.take_succ_cons, colsL]
      omega
    · simpa [colsL] using hk
/-- what comes next does not -/
theorem cutN_next (l : List Int) (k : Int) (z : Int) (r : List Int) (h : l.drop (cutN l k) = z :: r) : k < colsL (l.take (cutN l k)) + wp z := by
  induction l generalizing k with
  | nil => simp at h
  | cons c t ih =>
    by_cases hc : wp c ≤ k
    · have e : cutN (c :: t) k = cutN t (k - wp c) + 1 := by show (if wp c ≤ k then _ else _) = _; rw [if_pos hc]
      rw [e] at h ⊢
      have := ih (k - wp c) (by simpa using h)
      simp only [List.take_succ_cons, colsL]
      omega
    · have e : cutN (c :: t) k = 0 := by show (if wp c ≤ k then _ else _) = _; rw [if_neg hc]
      rw [e] at h ⊢
      simp only [List.drop_zero, List.cons.injEq] at h
      simp only [List.take_zero, colsL]
      rw [← h.1]
      omega
/-- what fits is taken whole -/
theorem cutN_all (l : List Int) (k : Int) (h : colsL l ≤ k) : cutN l k = l.length := by
  induction l generalizing k with
  | nil => rfl
  | cons c r ih =>
    simp only [colsL] at h
    have h1 := colsL_bd r
    show (if wp c ≤ k then _ else _) = _
    rw [if_pos (by omega), ih (k - wp c) (by omega)]
    rfl

theorem textL_app (a b : List Int) : textL (a ++ b) = textL a ++ textL b := by
  induction a with
  | nil => rfl
  | cons c r ih => simp only [List.cons_append, textL, ih, List.append_assoc]
theorem textL_nil {l : List Int} (h : textL l = []) : l = [] := by
  cases l with
  | nil => rfl
  | cons c r =>
    obtain ⟨f, t, hf, _⟩ := encL_first c
    simp [textL, hf] at h
theorem rep_rep (c : Int) : rep (rep c) = rep c := by
  unfold rep
  cases hk : chk c with
  | true => simp [hk]
  | false =>
    simp only [Bool.false_eq_true, if_false]
    have : chk 65533 = true := by decide +kernel
    rw [this]; rfl
theorem rep_map (l : List Int) : (l.map rep).map rep = l.map rep := by
  rw [List.map_map]
  congr 1
  funext c
  exact rep_rep c
/-- a wide number takes at least two bytes, one of width 1 at least one -/
theorem inR_low (l : List (Int × Int)) (m c : Int) (hl : ∀ p ∈ l, m ≤ p.1) (h : inR l c = true) : m ≤ c := by
  induction l with
  | nil => simp [inR] at h
  | cons p r ih =>
    simp only [inR, Bool.or_eq_true, Bool.and_eq_true, decide_eq_true_eq] at h
    rcases h with h | h
    · have := hl p (by simp); omega
    · exact ih (fun q hq => hl q (by simp [hq])) h
theorem wp_enc (c : Int) : wp (rep c) ≤ (encL c).length := by
  have hb := wp_bd (rep c)
  have h1 : 1 ≤ (encL c).length := by
    unfold encL
    split <;> exact (encV_len _).2
  by_cases h2 : wp (rep c) ≤ 1
  · omega
  · have hw : wid (rep c) = 2 := by have := wid_bd (rep c); unfold wp at h2; omega
    have hin : inR twoT (rep c) = true := by
      unfold wid at hw
      split at hw
      · omega
      · split at hw
        · omega
        · split at hw
          · omega
          · split at hw
            · assumption
            · omega
    have hlow : 4352 ≤ rep c := inR_low twoT 4352 _ (by decide) hin
    have he : 2 ≤ (encL c).length := by
      rw [← encL_rep]
      have hck : chk (rep c) = true := by
        cases hq : chk (rep c) with
        | true => rfl
        | false => unfold wid at hw; rw [if_pos hq] at hw; omega
      unfold encL
      rw [if_pos hck]
      unfold encV
      rw [if_neg (by omega), if_neg (by omega)]
      split <;> simp
    omega
theorem cols_text (l : List Int) : colsL (l.map rep) ≤ (textL l).length := by
  induction l with
  | nil => simp [colsL, textL]
  | cons c r ih =>
    have := wp_enc c
    simp only [List.map_cons, colsL, textL, List.length_append]
    omega
end Go.Proofs.YtneikcpejejagaaDoor.Wid
