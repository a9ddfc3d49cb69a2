/-
  Plain facts: the reference's test of a head says the same as the program's.
-/
import Derived.Test.YtneikcpejejagaaDoorUtfP
namespace Go.Proofs.YtneikcpejejagaaDoor.Utf

theorem fits_1 (x : Nat) : fitsB (x : Int) ((1 : Nat) : Int) = decide (x < 128) := by
  simp only [fitsB, chk]
  rcases cl_cases (x : Int) with ⟨h1, h2⟩ | ⟨h1, h1', h2⟩ | ⟨h1, h1', h2⟩ | ⟨h1, h2⟩ <;> (rw [h2, Bool.eq_iff_iff]; simp <;> omega)
theorem fits_2 (x : Nat) : fitsB (x : Int) ((2 : Nat) : Int) = decide (128 ≤ x ∧ x < 2048) := by
  simp only [fitsB, chk]
  rcases cl_cases (x : Int) with ⟨h1, h2⟩ | ⟨h1, h1', h2⟩ | ⟨h1, h1', h2⟩ | ⟨h1, h2⟩ <;> (rw [h2, Bool.eq_iff_iff]; simp <;> omega)
theorem fits_3 (x : Nat) : fitsB (x : Int) ((3 : Nat) : Int) = decide (2048 ≤ x ∧ x < 65536 ∧ (x < 55296 ∨ 57343 < x)) := by
  simp only [fitsB, chk]
  rcases cl_cases (x : Int) with ⟨h1, h2⟩ | ⟨h1, h1', h2⟩ | ⟨h1, h1', h2⟩ | ⟨h1, h2⟩ <;> (rw [h2, Bool.eq_iff_iff]; simp <;> omega)
theorem fits_4 (x : Nat) : fitsB (x : Int) ((4 : Nat) : Int) = decide (65536 ≤ x ∧ x ≤ 1114111) := by
  simp only [fitsB, chk]
  rcases cl_cases (x : Int) with ⟨h1, h2⟩ | ⟨h1, h1', h2⟩ | ⟨h1, h1', h2⟩ | ⟨h1, h2⟩ <;> (rw [h2, Bool.eq_iff_iff]; simp <;> omega)

theorem sp_in (v : Nat) (r : List UInt8) (h : r.any notc = false) (k : Nat) : sp v r k = if k ≤ r.length then (val v (r.take k), val v (r.take k)) else (val v r * 64 ^ (k - r.length), val v r * 64 ^ (k - r.length) + (64 ^ (k - r.length) - 1)) := by
  induction k with
  | zero => simp [sp, val]
  | succ k ih =>
    simp only [sp]
    rw [ih]
    by_cases hk : k + 1 ≤ r.length
    · rw [if_pos (show k ≤ r.length by omega), if_pos hk]
      obtain ⟨b, hb⟩ : ∃ b, r[k]? = some b := ⟨r[k]'(by omega), by simp⟩
      rw [hb, val_take_succ v r k b hb]
      have hn : notc b = false := by
        rw [List.any_eq_false] at h
        simpa using h b (List.mem_of_getElem? hb)
      have hr : 128 ≤ b.toNat ∧ b.toNat < 192 := by
        simp only [notc, Bool.not_eq_false', Bool.and_eq_true, decide_eq_true_eq] at hn
        exact hn
      have e : b.toNat - 128 = b.toNat % 64 := by omega
      simp only [e]
    · rw [if_neg hk, List.getElem?_eq_none (show r.length ≤ k by omega)]
      by_cases hk2 : k ≤ r.length
      · have e : k = r.length := by omega
        subst e
        rw [if_pos hk2]
        simp
      · rw [if_neg hk2]
        have e : k + 1 - r.length = (k - r.length) + 1 := by omega
        rw [e, Nat.pow_succ]
        have hp : 0 < 64 ^ (k - r.length) := Nat.pow_pos (by omega)
        have h3 : val v r * (64 ^ (k - r.length) * 64) = val v r * 64 ^ (k - r.length) * 64 := by rw [Nat.mul_assoc]
        simp only [Prod.mk.injEq]
        omega

theorem val_ge (a : Nat) (l : List UInt8) : a * 64 ^ l.length ≤ val a l := by
  induction l generalizing a with
  | nil => simp [val]
  | cons x r ih =>
    have h := ih (a * 64 + x.toNat % 64)
    simp only [val, List.length_cons, Nat.pow_succ]
    have h2 : (a * 64) * 64 ^ r.length ≤ (a * 64 + x.toNat % 64) * 64 ^ r.length := Nat.mul_le_mul_right _ (by omega)
    have h3 : a * (64 ^ r.length * 64) = (a * 64) * 64 ^ r.length := by rw [Nat.mul_comm (64 ^ r.length) 64, Nat.mul_assoc]
    omega

def least (n : Nat) : Nat := if n = 2 then 128 else if n = 3 then 2048 else if n = 4 then 65536 else 0
def most (n : Nat) : Nat := if n = 1 then 127 else if n = 2 then 2047 else if n = 3 then 65535 else if n = 4 then 1114111 else 0
def inB (n lo hi : Nat) : Bool := decide (max lo (least n) ≤ min hi (most n) ∧ ¬ (55296 ≤ max lo (least n) ∧ min hi (most n) ≤ 57343))
theorem ends_tell (n d x : Nat) (h1 : 1 ≤ n) (h2 : n ≤ 4) (h3 : d < n) :
    (fitsB ((x * 64 ^ d : Nat) : Int) (n : Int) || fitsB ((x * 64 ^ d + (64 ^ d - 1) : Nat) : Int) (n : Int)) = inB n (x * 64 ^ d) (x * 64 ^ d + (64 ^ d - 1)) := by
  rcases (show (n = 1 ∧ d = 0) ∨ (n = 2 ∧ d = 0) ∨ (n = 2 ∧ d = 1) ∨ (n = 3 ∧ d = 0) ∨ (n = 3 ∧ d = 1) ∨ (n = 3 ∧ d = 2) ∨ (n = 4 ∧ d = 0) ∨ (n = 4 ∧ d = 1) ∨ (n = 4 ∧ d = 2) ∨ (n = 4 ∧ d = 3) by omega) with
    ⟨rfl, rfl⟩ | ⟨rfl, rfl⟩ | ⟨rfl, rfl⟩ | ⟨rfl, rfl⟩ | ⟨rfl, rfl⟩ | ⟨rfl, rfl⟩ | ⟨rfl, rfl⟩ | ⟨rfl, rfl⟩ | ⟨rfl, rfl⟩ | ⟨rfl, rfl⟩
  all_goals
    simp only [fits_1, fits_2, fits_3, fits_4, inB, least, most]
    rw [Bool.eq_iff_iff]
    simp only [Bool.or_eq_true, decide_eq_true_eq, Nat.reducePow, Nat.reduceSub, Nat.reduceEqDiff, if_true, if_false]
    omega

theorem rn_fl (b : UInt8) (h : rn b ≠ 0) : rn b = fl b ∧ rv b = b.toNat - mk (fl b) := by
  have := b.toNat_lt
  unfold rn at h ⊢
  unfold rv
  by_cases h1 : b.toNat < 128
  · rw [fl_1 b (by omega), if_pos h1, if_pos h1]; simp [mk]
  · rw [if_neg h1] at h ⊢
    rw [if_neg h1]
    by_cases h2 : b.toNat < 192
    · rw [if_pos h2] at h; exact absurd rfl h
    · rw [if_neg h2] at h ⊢
      rw [if_neg h2]
      by_cases h3 : b.toNat < 224
      · rw [fl_2 b (by omega) h3, if_pos h3, if_pos h3]; simp [mk]
      · rw [if_neg h3] at h ⊢
        rw [if_neg h3]
        by_cases h4 : b.toNat < 240
        · rw [fl_3 b (by omega) h4, if_pos h4, if_pos h4]; simp [mk]
        · rw [if_neg h4] at h ⊢
          rw [if_neg h4]
          by_cases h5 : b.toNat < 248
          · rw [fl_4 b (by omega), if_pos h5, if_pos h5]; simp [mk]
          · rw [if_neg h5] at h; exact absurd rfl h
/-- a first byte that announces nothing begins nothing -/
theorem rn_zero (b : UInt8) (r : List UInt8) (h : rn b = 0) (hl : r.length + 1 ≤ fl b) : begB (b :: r) = false := by
  have hb := b.toNat_lt
  have hr : (128 ≤ b.toNat ∧ b.toNat < 192) ∨ 248 ≤ b.toNat := by
    unfold rn at h
    by_cases h1 : b.toNat < 128
    · rw [if_pos h1] at h; omega
    · rw [if_neg h1] at h
      by_cases h2 : b.toNat < 192
      · omega
      · rw [if_neg h2] at h
        by_cases h3 : b.toNat < 224
        · rw [if_pos h3] at h; omega
        · rw [if_neg h3] at h
          by_cases h4 : b.toNat < 240
          · rw [if_pos h4] at h; omega
          · rw [if_neg h4] at h
            by_cases h5 : b.toNat < 248
            · rw [if_pos h5] at h; omega
            · omega
  rcases hr with ⟨h1, h2⟩ | h1
  · have f1 := fl_1 b h2
    rw [f1] at hl
    obtain rfl : r = [] := List.eq_nil_of_length_eq_zero (by omega)
    simp [begB, low, high, f1, val, mk]
    have e1 := fits_1 b.toNat
    have e2 : decide (b.toNat < 128) = false := decide_eq_false (by omega)
    rw [e2] at e1
    exact e1
  · have f1 := fl_4 b (by omega)
    have hv : 8 ≤ b.toNat - 240 := by omega
    have hlow : 2097152 ≤ low (b :: r) := by
      have h3 := val_ge (b.toNat - 240) r
      have hm : mk 4 = 240 := rfl
      simp only [low, f1, hm]
      have h4 : 8 * 64 ^ r.length * 64 ^ (4 - (r.length + 1)) ≤ val (b.toNat - 240) r * 64 ^ (4 - (r.length + 1)) := Nat.mul_le_mul_right _ (Nat.le_trans (Nat.mul_le_mul_right _ hv) h3)
      rw [Nat.mul_assoc, ← Nat.pow_add] at h4
      rw [f1] at hl
      have e : r.length + (4 - (r.length + 1)) = 3 := by omega
      rw [e] at h4
      omega
    have hhigh : 2097152 ≤ high (b :: r) := by simp only [high]; omega
    have e1 : fitsB ((low (b :: r) : Nat) : Int) ((4 : Nat) : Int) = false := by rw [fits_4]; exact decide_eq_false (by omega)
    have e2 : fitsB ((high (b :: r) : Nat) : Int) ((4 : Nat) : Int) = false := by rw [fits_4]; exact decide_eq_false (by omega)
    simp only [begB, f1, e1, e2]
    simp

def goesB (bs : List UInt8) : Bool :=
  match bs with
  | [] => false
  | b :: r => decide (r.length + 1 ≤ fl b) && begB (b :: r)
def wholeB (bs : List UInt8) : Bool :=
  match bs with
  | [] => false
  | b :: r => goesB (b :: r) && decide (r.length + 1 = fl b)
theorem goes_zero (bs : List UInt8) (h : (rsp bs).2.2 = 0) : goesB bs = false := by
  cases bs with
  | nil => rfl
  | cons b r =>
    by_cases hl : r.length + 1 ≤ fl b
    · simp only [goesB, decide_eq_true hl, Bool.true_and]
      by_cases hz : rn b = 0
      · exact rn_zero b r hz hl
      · obtain ⟨e1, e2⟩ := rn_fl b hz
        simp only [rsp] at h
        rw [e1] at h
        have hd : decide (fl b < r.length + 1) = false := decide_eq_false (by omega)
        rw [hd, Bool.or_false] at h
        have ht : r.take (fl b - 1) = r := List.take_of_length_le (by omega)
        rw [ht] at h
        cases ha : r.any notc with
        | true => simp [begB, ha]
        | false =>
          rw [ha] at h
          simp only [Bool.false_eq_true, if_false] at h
          omega
    · simp [goesB, hl]
theorem goes_in (bs : List UInt8) (lo hi n : Nat) (h : rsp bs = (lo, hi, n)) (hn : n ≠ 0) : n ≤ 4 ∧ goesB bs = inB n lo hi ∧ wholeB bs = (inB n lo hi && decide (bs.length = n)) ∧ lo = low bs := by
  cases bs with
  | nil => simp [rsp] at h; omega
  | cons b r =>
    simp only [rsp] at h
    by_cases hc : ((r.take (rn b - 1)).any notc || decide (rn b < r.length + 1)) = true
    · rw [if_pos hc] at h
      cases h
      exact absurd rfl hn
    · rw [if_neg hc] at h
      simp only [Bool.or_eq_true, decide_eq_true_eq, not_or] at hc
      have hz : rn b ≠ 0 := by
        intro hz
        simp only [hz, Prod.mk.injEq] at h
        exact hn h.2.2.symm
      obtain ⟨e1, e2⟩ := rn_fl b hz
      rw [e1, e2] at h
      rw [e1] at hc
      have ht : r.take (fl b - 1) = r := List.take_of_length_le (by omega)
      rw [ht] at hc
      have ha : r.any notc = false := by simpa using hc.1
      have hf := fl_bd b
      rw [sp_in _ r ha] at h
      simp only [Prod.mk.injEq] at h
      obtain ⟨h1, h2, h3⟩ := h
      have hlow : low (b :: r) = val (b.toNat - mk (fl b)) r * 64 ^ (fl b - (r.length + 1)) := rfl
      have hd : fl b - 1 - r.length = fl b - (r.length + 1) := by omega
      have hlo : lo = low (b :: r) ∧ hi = high (b :: r) := by
        by_cases hle : fl b - 1 ≤ r.length
        · have e : fl b - (r.length + 1) = 0 := by omega
          rw [if_pos hle] at h1 h2
          rw [ht] at h1 h2
          rw [show high (b :: r) = low (b :: r) + (64 ^ (fl b - (r.length + 1)) - 1) from rfl, hlow, e]
          simp only [] at h1 h2
          simp; omega
        · rw [if_neg hle] at h1 h2
          rw [show high (b :: r) = low (b :: r) + (64 ^ (fl b - (r.length + 1)) - 1) from rfl, hlow, ← hd]
          exact ⟨h1.symm, h2.symm⟩
      have key := ends_tell (fl b) (fl b - (r.length + 1)) (val (b.toNat - mk (fl b)) r) hf.1 hf.2 (by omega)
      have hgo : goesB (b :: r) = inB n lo hi := by
        simp only [goesB, decide_eq_true (show r.length + 1 ≤ fl b by omega), Bool.true_and, begB, ha, Bool.not_false]
        rw [← h3, hlo.1, hlo.2, show high (b :: r) = low (b :: r) + (64 ^ (fl b - (r.length + 1)) - 1) from rfl, hlow]
        exact key
      refine ⟨by omega, hgo, ?_, hlo.1⟩
      simp only [wholeB, hgo, List.length_cons, h3]
end Go.Proofs.YtneikcpejejagaaDoor.Utf
