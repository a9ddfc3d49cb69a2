/-
  Plain facts of layer 8: what has a text, the text, reading it back.
-/
import Derived.Test.YtoilcigmpeaedaaGreatDoorUtfN
import Derived.Test.YtoilcigmpeaedaaGreatDoorColTxt
import Derived.Test.YtoilcigmpeaedaaGreatDoorB64Math
namespace Go.Proofs.YtoilcigmpeaedaaGreatDoor.Osc
open Utf Col

/-- a code point that a title may not have -/
def badC (c : Int) : Bool := decide (c < 32) || (decide (127 ≤ c) && decide (c ≤ 159))
def titB (s : List UInt8) : Bool := decide (s.length ≤ 510) && ((codesL s).all (fun c => !badC c) && decide (textL (codesL s) = s))
/-- a number below 256 in decimal -/
def decN (n : Nat) : List UInt8 := if n < 10 then [UInt8.ofNat (48 + n)] else if n < 100 then [UInt8.ofNat (48 + n / 10), UInt8.ofNat (48 + n % 10)] else [UInt8.ofNat (48 + n / 100), UInt8.ofNat (48 + n / 10 % 10), UInt8.ofNat (48 + n % 10)]
def dvl : Nat → List UInt8 → Option Nat
  | n, [] => some n
  | n, b :: r => if 48 ≤ b.toNat ∧ b.toNat ≤ 57 then dvl (10 * n + (b.toNat - 48)) r else none
def num3 (s : List UInt8) : Option Nat := if s = [] ∨ 3 < s.length then none else (dvl 0 s).bind fun n => if n ≤ 255 then some n else none
/-- split at the first semicolon -/
def cutL : List UInt8 → Option (List UInt8 × List UInt8)
  | [] => none
  | b :: r => if b = 59 then some ([], r) else (cutL r).map fun p => (b :: p.1, p.2)
structure A6 where
  k : Int
  n : Int
  m : Int
  c0 : Int
  c1 : Int
  t : List UInt8
deriving DecidableEq

def prtO (a : A6) : Option (List UInt8) :=
  if a.k = 44 ∧ a.n = 0 ∧ a.m = 0 ∧ a.c0 = 0 ∧ a.c1 = 0 ∧ titB a.t = true then some (50 :: 59 :: a.t)
  else if a.k = 45 ∧ a.m = 0 ∧ a.t = [] ∧ 0 ≤ a.n ∧ a.n ≤ 255 ∧ a.c0 = 2 ∧ 0 ≤ a.c1 ∧ a.c1 ≤ 16777215 then some (52 :: 59 :: (decN a.n.toNat ++ 59 :: txt a.c1.toNat))
  else if a.k = 46 ∧ a.n = 0 ∧ a.m = 0 ∧ a.c0 = 0 ∧ a.c1 = 0 ∧ a.t.length ≤ 378 then some (53 :: 50 :: 59 :: 99 :: 59 :: B64.encL a.t)
  else none
def parT (r : List UInt8) : Option A6 := if titB r = true then some ⟨44, 0, 0, 0, 0, r⟩ else none
def parP (r : List UInt8) : Option A6 := (cutL r).bind fun p => (num3 p.1).bind fun n => (parseL p.2).bind fun x => some ⟨45, n, 0, 2, x, []⟩
def parC (r : List UInt8) : Option A6 := (cutL r).bind fun p => if p.1 = [99] then (B64.decL p.2).bind fun c => if c.length ≤ 378 then some ⟨46, 0, 0, 0, 0, c⟩ else none else none
def parO (s : List UInt8) : Option A6 :=
  if 512 < s.length then none else (cutL s).bind fun p => if p.1 = [48] ∨ p.1 = [50] then parT p.2 else if p.1 = [52] then parP p.2 else if p.1 = [53, 50] then parC p.2 else none
theorem cutL_app (a r : List UInt8) (h : ∀ b ∈ a, b ≠ 59) : cutL (a ++ 59 :: r) = some (a, r) := by
  induction a with
  | nil => simp [cutL]
  | cons x a ih =>
    have h1 : x ≠ 59 := h x (by simp)
    simp [cutL, h1, ih fun b hb => h b (by simp [hb])]
theorem decN_all : ∀ n : Fin 256, num3 (decN n.val) = some n.val ∧ (decN n.val).length ≤ 3 ∧ (decN n.val).all (fun b => decide (b ≠ 59) && decide (48 ≤ b.toNat) && decide (b.toNat ≤ 57)) = true := by decide +kernel
theorem num3_lt {s : List UInt8} {n : Nat} (h : num3 s = some n) : n ≤ 255 := by
  unfold num3 at h
  split at h
  · cases h
  · obtain ⟨m, _, hm⟩ := Option.bind_eq_some_iff.1 h
    split at hm
    · injection hm with hm; omega
    · cases hm
theorem txt_len (x : Nat) : (txt x).length = 12 := rfl
theorem prs_lt : ∀ (f s : List UInt8) (a x : Nat), prs f s a = some x → x < (a + 1) * 16 ^ (f.count 104)
  | [], _, a, x, h => by simp [prs] at h; simp; omega
  | g :: f, [], a, x, h => by
    simp [prs] at h
    subst h
    exact Nat.lt_of_lt_of_le (Nat.lt_succ_self a) (Nat.le_mul_of_pos_right _ (Nat.pow_pos (by decide)))
  | g :: f, c :: s, a, x, h => by
    unfold prs at h
    split at h
    · rename_i hg
      subst hg
      cases hd : dig c with
      | none => rw [hd] at h; cases h
      | some d =>
        rw [hd] at h
        have h1 := prs_lt f s (a * 16 + d) x h
        have h2 := dig_bd c d hd
        rw [List.count_cons_self, Nat.pow_succ]
        refine Nat.lt_of_lt_of_le h1 ?_
        rw [Nat.mul_comm (16 ^ _) 16, ← Nat.mul_assoc]
        exact Nat.mul_le_mul_right _ (by omega)
    · rename_i hg
      split at h
      · have h1 := prs_lt f s a x h
        rw [List.count_cons_of_ne (by intro e; exact hg (by simpa using e))]
        exact h1
      · cases h
theorem parseL_lt {s : List UInt8} {x : Nat} (h : parseL s = some x) : x < 16777216 := by
  unfold parseL at h
  split at h
  · have h1 := prs_lt formL s 0 x h
    have h2 : (0 + 1) * 16 ^ (formL.count 104) = 16777216 := by decide
    omega
  · cases h
/-- Parse inverts Print -/
theorem back {a : A6} {s : List UInt8} (h : prtO a = some s) : parO s = some a ∧ s.length ≤ 512 := by
  unfold prtO at h
  obtain ⟨k, n, m, c0, c1, t⟩ := a
  dsimp only at h
  split at h
  · rename_i hc
    obtain ⟨rfl, rfl, rfl, rfl, rfl, ht⟩ := hc
    injection h with h; subst h
    have hl : t.length ≤ 510 := by unfold titB at ht; simp only [Bool.and_eq_true, decide_eq_true_eq] at ht; exact ht.1
    have h2 : (50 :: 59 :: t).length ≤ 512 := by simp only [List.length_cons]; omega
    refine ⟨?_, h2⟩
    unfold parO
    rw [if_neg (by omega), show cutL (50 :: 59 :: t) = some ([50], t) from cutL_app [50] t (by decide)]
    simp [parT, ht]
  · split at h
    · rename_i hc
      obtain ⟨rfl, rfl, rfl, n0, n1, rfl, x0, x1⟩ := hc
      injection h with h; subst h
      obtain ⟨d1, d2, d3⟩ := decN_all ⟨n.toNat, by omega⟩
      dsimp only at d1 d2 d3
      have h2 : (52 :: 59 :: (decN n.toNat ++ 59 :: txt c1.toNat)).length ≤ 512 := by simp only [List.length_cons, List.length_append, txt_len]; omega
      refine ⟨?_, h2⟩
      unfold parO
      rw [if_neg (by omega), show cutL (52 :: 59 :: (decN n.toNat ++ 59 :: txt c1.toNat)) = some ([52], decN n.toNat ++ 59 :: txt c1.toNat) from cutL_app [52] _ (by decide)]
      have h3 : cutL (decN n.toNat ++ 59 :: txt c1.toNat) = some (decN n.toNat, txt c1.toNat) := cutL_app _ _ fun b hb => by
        have := List.all_eq_true.1 d3 b hb
        simp only [Bool.and_eq_true, decide_eq_true_eq] at this
        exact this.1.1
      simp [parP, h3, d1, parse_txt c1.toNat (by omega)]
      omega
    · split at h
      · rename_i hc
        obtain ⟨rfl, rfl, rfl, rfl, rfl, ht⟩ := hc
        injection h with h; subst h
        have h2 : (53 :: 50 :: 59 :: 99 :: 59 :: B64.encL t).length ≤ 512 := by simp only [List.length_cons, B64.encL_len]; omega
        refine ⟨?_, h2⟩
        unfold parO
        rw [if_neg (by omega), show cutL (53 :: 50 :: 59 :: 99 :: 59 :: B64.encL t) = some ([53, 50], 99 :: 59 :: B64.encL t) from cutL_app [53, 50] _ (by decide)]
        simp [parC, show cutL (99 :: 59 :: B64.encL t) = some ([99], B64.encL t) from cutL_app [99] _ (by decide), B64.decL_enc, ht]
      · cases h
theorem inj {a b : A6} {s : List UInt8} (h : prtO a = some s) (g : prtO b = some s) : a = b := by
  have h1 := (back h).1.symm.trans (back g).1
  injection h1
/-- what Parse returns has a text -/
theorem canon {s : List UInt8} {a : A6} (h : parO s = some a) : ∃ u, prtO a = some u := by
  unfold parO at h
  split at h
  · cases h
  · obtain ⟨p, _, h⟩ := Option.bind_eq_some_iff.1 h
    split at h
    · unfold parT at h
      split at h
      · rename_i ht
        injection h with h; subst h
        exact ⟨_, by unfold prtO; rw [if_pos ⟨rfl, rfl, rfl, rfl, rfl, ht⟩]⟩
      · cases h
    · split at h
      · obtain ⟨q, _, h⟩ := Option.bind_eq_some_iff.1 h
        obtain ⟨n, hn, h⟩ := Option.bind_eq_some_iff.1 h
        obtain ⟨x, hx, h⟩ := Option.bind_eq_some_iff.1 h
        injection h with h; subst h
        have h1 := num3_lt hn
        have h2 : x < 16777216 := parseL_lt hx
        exact ⟨_, by unfold prtO; rw [if_neg (by intro hc; exact absurd hc.1 (by show ¬ (45 : Int) = 44; decide)), if_pos ⟨rfl, rfl, rfl, by dsimp only; omega, by dsimp only; omega, rfl, by dsimp only; omega, by dsimp only; omega⟩]⟩
      · split at h
        · obtain ⟨q, _, h⟩ := Option.bind_eq_some_iff.1 h
          split at h
          · obtain ⟨c, hc, h⟩ := Option.bind_eq_some_iff.1 h
            split at h
            · rename_i hl
              injection h with h; subst h
              exact ⟨_, by unfold prtO; rw [if_neg (by intro hc; exact absurd hc.1 (by show ¬ (46 : Int) = 44; decide)), if_neg (by intro hc; exact absurd hc.1 (by show ¬ (46 : Int) = 45; decide)), if_pos ⟨rfl, rfl, rfl, rfl, rfl, hl⟩]⟩
            · cases h
          · cases h
        · cases h
/-- the code points of a list that begins with an ASCII byte -/
theorem codes_ascii (c : UInt8) (r : List UInt8) (h : c.toNat < 128) : codesL (c :: r) = (c.toNat : Int) :: codesL r := by
  have h1 := dec_1 c.toNat h []
  have h2 : UInt8.ofNat c.toNat = c := by apply UInt8.toNat_inj.1; rw [UInt8.toNat_ofNat']; have := c.toNat_lt; omega
  rw [h2] at h1
  unfold codesL
  rw [show c :: r = [c] ++ r from rfl, runL_app, h1, runL_shift [] _ r]
  simp
theorem tit_ctl (a : List UInt8) (c : UInt8) (b : List UInt8) (h : c.toNat < 32) : titB (a ++ c :: b) = false := by
  have h1 : codesL (a ++ c :: b) = codesL a ++ (c.toNat : Int) :: codesL b := by
    rw [codes_resync a c b (notc_first c (by omega)), codes_ascii c b (by omega)]
  unfold titB
  rw [h1, List.all_append, List.all_cons]
  have h2 : badC (c.toNat : Int) = true := by unfold badC; simp; omega
  simp [h2]
theorem textL_app (a b : List Int) : textL (a ++ b) = textL a ++ textL b := by
  induction a with
  | nil => rfl
  | cons x r ih => show encL x ++ textL (r ++ b) = encL x ++ textL r ++ textL b; rw [ih, List.append_assoc]
theorem tit_c3 (a r : List UInt8) (ha : textL (codesL a) = a) (hr : textL (codesL r) = r) (hn : r = [] ∨ ∃ f q, r = f :: q ∧ notc f = true) : titB (a ++ 195 :: r) = false := by
  have h0 : codesL [195] = [65533] := by decide +kernel
  have h1 : codesL (195 :: r) = 65533 :: codesL r := by
    rcases hn with rfl | ⟨f, q, rfl, hf⟩
    · rw [h0]; rfl
    · rw [show (195 : UInt8) :: f :: q = [195] ++ f :: q from rfl, codes_resync [195] f q hf, h0]; rfl
  have h2 : codesL (a ++ 195 :: r) = codesL a ++ 65533 :: codesL r := by
    rw [codes_resync a 195 r (by decide), h1]
  have h3 : (textL (codesL (a ++ 195 :: r))).length = a.length + 3 + r.length := by
    rw [h2, textL_app, ha, show textL (65533 :: codesL r) = encL 65533 ++ textL (codesL r) from rfl, hr, List.length_append, List.length_append, show (encL 65533).length = 3 by decide +kernel]
    omega
  unfold titB
  have h4 : ¬ textL (codesL (a ++ 195 :: r)) = a ++ 195 :: r := fun e => by
    rw [e] at h3
    simp only [List.length_append, List.length_cons] at h3
    omega
  rw [decide_eq_false h4]
  simp
theorem tit_long (s : List UInt8) (h : 510 < s.length) : titB s = false := by
  unfold titB
  rw [decide_eq_false (by omega)]
  rfl
end Go.Proofs.YtoilcigmpeaedaaGreatDoor.Osc
