/-
  The program's decoder in plain words, and that it does what the chapter says wherever the parse is valid.
-/
import Derived.Test.YtefkbdmgplfgoaaGreatDoorStaMath
namespace Go.Proofs.YtefkbdmgplfgoaaGreatDoor.Sta
open Utf Par

def signB (b : UInt8) : Bool := decide (32 ≤ b.toNat) && decide (b.toNat ≤ 47)
def privB (b : UInt8) : Bool := decide (60 ≤ b.toNat) && decide (b.toNat ≤ 63)
def finlB (b : UInt8) : Bool := decide (64 ≤ b.toNat) && decide (b.toNat < 127)
def textB (b : UInt8) : Bool := decide (32 ≤ b.toNat) && !decide (b.toNat = 127)
def prnbB (b : UInt8) : Bool := decide (32 ≤ b.toNat) && decide (b.toNat < 127)
def strB (n : Int) : Bool := decide (n = 6) || decide (n = 7) || decide (n = 11) || decide (n = 12) || decide (n = 13) || decide (n = 14)
def evD (p : PS) (k : Int) (fi : UInt8) : EV := ⟨k, 0, p.pr, fi, p.ps, p.it, p.tx⟩
def dspD (p : PS) (k : Int) (fi : UInt8) : PS × List EV := if p.bad = true then (begS 0, []) else (begS 0, [evD p k fi])
def addD (p : PS) (b : UInt8) : PS := if p.it.size = 2 then spoS p.st else { p with it := p.it ++ bs1 b }
def parD (p : PS) (b : UInt8) : PS := if (stpV p.ps b).2 ≠ 0 then spoS p.st else { p with ps := (stpV p.ps b).1 }
def finD (p : PS) (b : UInt8) : PS × List EV := if p.st ≤ 5 then dspD p 4 b else ({ p with st := 11, fi := b }, [])
def escD (p : PS) (b : UInt8) : PS × List EV :=
  if signB b then (addD (begS 2) b, [])
  else if b.toNat = 91 then (begS 3, []) else if b.toNat = 93 then (begS 6, []) else if b.toNat = 80 then (begS 8, [])
  else if b.toNat = 88 ∨ b.toNat = 94 ∨ b.toNat = 95 then (begS 13, []) else dspD p 3 b
def sgnD (p : PS) (b : UInt8) : PS × List EV := if signB b then (addD p b, []) else dspD p 3 b
def parmD (p : PS) (b : UInt8) : PS × List EV :=
  if signB b then (addD { p with st := p.st + 1 } b, [])
  else if privB b then (spoS p.st, [])
  else if finlB b then finD p b
  else (parD p b, [])
def entD (p : PS) (b : UInt8) : PS × List EV :=
  if privB b then ({ p with st := p.st + 1, pr := b }, []) else parmD { p with st := p.st + 1 } b
def intD (p : PS) (b : UInt8) : PS × List EV :=
  if signB b then (addD p b, []) else if finlB b then finD p b else (spoS p.st, [])
def texD (p : PS) (b : UInt8) : PS :=
  if textB b then if p.tx.size = 512 then spoS p.st else { p with tx := p.tx ++ bs1 b } else p
def oscD (p : PS) (b : UInt8) : PS × List EV := if b.toNat = 7 then dspD p 5 0 else (texD p b, [])
/-- take in Escape -/
def tkeD (b : UInt8) : PS × List EV :=
  if b.toNat = 24 ∨ b.toNat = 26 then (begS 0, []) else if b.toNat = 27 then (begS 1, [])
  else if prnbB b then escD (begS 1) b
  else if 128 ≤ b.toNat then prtS [] b
  else if b.toNat ≠ 127 then (begS 1, [ctE b.toNat]) else (begS 1, [])
def endD (p : PS) (b : UInt8) : PS × List EV :=
  if b.toNat ≠ 92 then tkeD b else if p.st = 7 then dspD p 5 0 else if p.st = 12 then dspD p 6 p.fi else (begS 0, [])
def rulD (p : PS) (b : UInt8) : PS × List EV :=
  if p.st = 0 then (p, [prE b.toNat]) else if p.st = 1 then escD p b else if p.st = 2 then sgnD p b
  else if p.st = 3 then entD p b else if p.st = 4 then parmD p b else if p.st = 5 then intD p b
  else if p.st = 6 then oscD p b else if p.st = 7 then endD p b
  else if p.st = 8 then entD p b else if p.st = 9 then parmD p b else if p.st = 10 then intD p b
  else if p.st = 11 then (texD p b, []) else if p.st = 12 then endD p b else if p.st = 13 then (p, []) else endD p b
def rawD (p : PS) (b : UInt8) : PS × List EV :=
  if p.utf ≠ [] then prtS p.utf b
  else if b.toNat = 24 ∨ b.toNat = 26 then (begS 0, [])
  else if b.toNat = 27 then if p.st = 6 ∨ p.st = 11 ∨ p.st = 13 then ({ p with st := p.st + 1 }, []) else (begS 1, [])
  else if (strB p.st || prnbB b) = true then rulD p b
  else if 128 ≤ b.toNat then prtS [] b
  else if b.toNat ≠ 127 ∧ p.st ≤ 5 then (p, [ctE b.toNat])
  else (p, [])
def takD (p : PS) (b : UInt8) : PS × List EV := if (rawD p b).1.bad = true then (spoS (rawD p b).1.st, (rawD p b).2) else rawD p b

theorem ba_nil (s : ByteArray) (h : s.size = 0) : s = nos := by
  obtain ⟨⟨l⟩⟩ := s
  have h' : l.length = 0 := h
  have : l = [] := List.eq_nil_of_length_eq_zero h'
  subst this; rfl
theorem ba_size (s : ByteArray) (b : UInt8) : (s ++ bs1 b).size = s.size + 1 := by
  rw [ByteArray.size_append]; rfl
theorem nos_app (b : UInt8) : nos ++ bs1 b = bs1 b := rfl
/-- what a valid parse looks like, state by state -/
theorem may_bad {p : PS} (h : mayS p = true) (hb : p.bad = true) : p = spoS p.st ∧ (p.st = 2 ∨ p.st = 4 ∨ p.st = 5 ∨ p.st = 6 ∨ p.st = 7 ∨ p.st = 9 ∨ p.st = 10 ∨ p.st = 11 ∨ p.st = 12) := by
  obtain ⟨st, utf, pr, fi, ps, it, tx, bad⟩ := p
  dsimp only at hb ⊢
  subst hb
  unfold mayS at h
  dsimp only at h
  split at h
  · cases h
  · simp [empB, hasB] at h
    obtain ⟨⟨⟨⟨⟨⟨h1, h2⟩, h3⟩, h4⟩, h5⟩, h6⟩, h7⟩ := h
    subst h1; subst h2; subst h3; subst h4
    subst h5; subst h6
    exact ⟨rfl, h7⟩
theorem may_st {p : PS} (h : mayS p = true) : 0 ≤ p.st ∧ p.st < 15 := by
  unfold mayS at h
  split at h
  · cases h
  · omega
/-- the fields of a valid parse that is not spoiled -/
structure Good (p : PS) : Prop where
  lo : 0 ≤ p.st
  hi : p.st < 15
  bad : p.bad = false
  utf : p.utf = [] ∨ (preB p.utf = true ∧ p.st = 0)
  ps : isBad p.ps = false
  its : (p.it.data.toList.all (fun c => decide (32 ≤ c.toNat) && decide (c.toNat ≤ 47))) = true
  itl : leastS p.st ≤ p.it.size
  itm : p.it.size ≤ mostS p.st
  psn : p.ps = [] ∨ (p.st = 4 ∨ p.st = 5 ∨ p.st = 9 ∨ p.st = 10 ∨ p.st = 11 ∨ p.st = 12)
  ent : (p.st = 4 ∨ p.st = 9) → p.ps = [] → p.pr ≠ 0
  pr : p.pr = 0 ∨ (60 ≤ p.pr.toNat ∧ p.pr.toNat ≤ 63 ∧ (p.st = 4 ∨ p.st = 5 ∨ p.st = 9 ∨ p.st = 10 ∨ p.st = 11 ∨ p.st = 12))
  fi : ((p.st = 11 ∨ p.st = 12) ∧ 64 ≤ p.fi.toNat ∧ p.fi.toNat ≤ 126) ∨ (p.st ≠ 11 ∧ p.st ≠ 12 ∧ p.fi = 0)
  txs : (p.tx.data.toList.all (fun c => decide (32 ≤ c.toNat) && !decide (c.toNat = 127))) = true
  txl : p.tx.size ≤ 512
  txn : p.tx.size = 0 ∨ (p.st = 6 ∨ p.st = 7 ∨ p.st = 11 ∨ p.st = 12)
theorem may_good {p : PS} (hb : p.bad = false) : mayS p = true ↔ Good p := by
  constructor
  · intro h
    have h0 := may_st h
    unfold mayS at h
    rw [if_neg (by omega), if_neg (by rw [hb]; decide)] at h
    simp only [Bool.and_eq_true] at h
    obtain ⟨⟨⟨⟨⟨⟨⟨⟨⟨h1, h2⟩, h3⟩, h4⟩, h5⟩, h6⟩, h7⟩, h8⟩, h9⟩, h10⟩ := h
    refine ⟨h0.1, h0.2, hb, ?_, by simpa using h3, ?_, ?_, ?_, ?_, ?_, ?_, ?_, ?_, ?_, ?_⟩
    · by_cases e : p.utf = []
      · exact .inl e
      · right
        have e' : p.utf.isEmpty = false := by cases hu : p.utf with | nil => exact absurd hu e | cons => rfl
        rw [e', Bool.false_or] at h1 h2
        exact ⟨h1, by simpa using h2⟩
    · unfold sigB at h4; rw [Bool.and_eq_true] at h4; exact h4.1
    · unfold sigB at h4; simp only [Bool.and_eq_true, decide_eq_true_eq] at h4; exact h4.2.1
    · unfold sigB at h4; simp only [Bool.and_eq_true, decide_eq_true_eq] at h4; exact h4.2.2
    · simpa [hasB] using h5
    · intro hs he
      simp [hasB, he] at h6
      rcases h6 with h6 | h6
      · omega
      · exact h6
    · simp [hasB] at h7
      rcases h7 with h7 | h7
      · exact .inl h7
      · exact .inr ⟨h7.1.1, h7.1.2, h7.2⟩
    · by_cases e : p.st = 11 ∨ p.st = 12
      · left
        rw [if_pos (by simpa [hasB] using e)] at h8
        simp only [Bool.and_eq_true, decide_eq_true_eq] at h8
        exact ⟨e, h8.1, h8.2⟩
      · right
        rw [if_neg (by simpa [hasB] using e)] at h8
        exact ⟨by omega, by omega, by simpa using h8⟩
    · unfold texB at h9; rw [Bool.and_eq_true] at h9; exact h9.1
    · unfold texB at h9; simp only [Bool.and_eq_true, decide_eq_true_eq] at h9; exact h9.2
    · simpa [hasB] using h10
  · intro h
    unfold mayS
    rw [if_neg (by have := h.lo; have := h.hi; omega), if_neg (by rw [hb]; decide)]
    simp only [Bool.and_eq_true]
    refine ⟨⟨⟨⟨⟨⟨⟨⟨⟨?_, ?_⟩, ?_⟩, ?_⟩, ?_⟩, ?_⟩, ?_⟩, ?_⟩, ?_⟩, ?_⟩
    · rcases h.utf with e | e
      · rw [e]; rfl
      · rw [e.1]; simp
    · rcases h.utf with e | e
      · rw [e]; rfl
      · simp [e.2]
    · simp [h.ps]
    · unfold sigB; rw [Bool.and_eq_true]; exact ⟨h.its, by simp [h.itl, h.itm]⟩
    · simpa [hasB] using h.psn
    · simp only [hasB, Bool.not_eq_true', Bool.and_eq_false_iff, decide_eq_false_iff_not]
      by_cases e1 : p.st = 4 ∨ p.st = 9
      · by_cases e2 : p.ps = []
        · right; exact h.ent e1 e2
        · left; right; exact e2
      · left; left; simpa using e1
    · have := h.pr
      simp [hasB]
      rcases this with h7 | h7
      · exact .inl h7
      · exact .inr ⟨⟨h7.1, h7.2.1⟩, h7.2.2⟩
    · rcases h.fi with ⟨e1, e2, e3⟩ | ⟨e1, e2, e3⟩
      · rw [if_pos (by simpa [hasB] using e1)]; simp [e2, e3]
      · rw [if_neg (by simp [hasB]; omega)]; simp [e3]
    · unfold texB; rw [Bool.and_eq_true]; exact ⟨h.txs, by simp [h.txl]⟩
    · simpa [hasB] using h.txn
end Go.Proofs.YtefkbdmgplfgoaaGreatDoor.Sta
