/-
  StaMath StaP StaQ StaR
-/
import Derived.WalkKit
import Derived.Test.YtmboekpomjgnnaaGreatDoorF0
import Derived.Test.YtmboekpomjgnnaaGreatDoorF1
namespace Go.Proofs.YtmboekpomjgnnaaGreatDoor.Sta
open Utf Par

/-- a parse -/
structure PS where
  st : Int
  utf : List UInt8
  pr : UInt8
  fi : UInt8
  ps : List (List Int)
  it : ByteArray
  tx : ByteArray
  bad : Bool
/-- an event -/
structure EV where
  k : Int
  c : Int
  pr : UInt8
  fi : UInt8
  ps : List (List Int)
  it : ByteArray
  tx : ByteArray
def nos : ByteArray := ⟨#[]⟩
def bs1 (b : UInt8) : ByteArray := ⟨#[b]⟩
def begS (n : Int) : PS := ⟨n, [], 0, 0, [], nos, nos, false⟩
def spoS (n : Int) : PS := ⟨n, [], 0, 0, [], nos, nos, true⟩
def prE (c : Int) : EV := ⟨1, c, 0, 0, [], nos, nos⟩
def ctE (c : Int) : EV := ⟨2, c, 0, 0, [], nos, nos⟩
def esE (it : ByteArray) (fi : UInt8) : EV := ⟨3, 0, 0, fi, [], it, nos⟩
def csE (p : PS) (fi : UInt8) : EV := ⟨4, 0, p.pr, fi, p.ps, p.it, nos⟩
def osE (p : PS) : EV := ⟨5, 0, 0, 0, [], nos, p.tx⟩
def dcE (p : PS) : EV := ⟨6, 0, p.pr, p.fi, p.ps, p.it, p.tx⟩
def tolS (p : PS) (e : EV) : PS × List EV := if p.bad then (begS 0, []) else (begS 0, [e])
def sigS (p : PS) (b : UInt8) : PS := if p.bad = true ∨ p.it.size = 2 then spoS p.st else { p with it := p.it ++ bs1 b }
def escS (b : UInt8) : PS × List EV :=
  if b.toNat = 91 then (begS 3, []) else if b.toNat = 93 then (begS 6, []) else if b.toNat = 80 then (begS 8, [])
  else if b.toNat = 88 ∨ b.toNat = 94 ∨ b.toNat = 95 then (begS 13, [])
  else if b.toNat ≤ 47 then ({ begS 2 with it := bs1 b }, []) else (begS 0, [esE nos b])
/-- a byte of a string -/
def witS (p : PS) (b : UInt8) : PS × List EV :=
  if p.st = 6 ∧ b.toNat = 7 then tolS p (osE p)
  else if b.toNat < 32 ∨ b.toNat = 127 ∨ p.st = 13 ∨ p.bad = true then (p, [])
  else if p.tx.size = 512 then (spoS p.st, [])
  else ({ p with tx := p.tx ++ bs1 b }, [])
/-- a final byte -/
def finS (p : PS) (b : UInt8) : PS × List EV :=
  if p.st ≤ 5 then tolS p (csE p b) else if p.bad then ({ p with st := 11 }, []) else ({ p with st := 11, fi := b }, [])
/-- a byte from 20 to 7E -/
def goeS (p : PS) (b : UInt8) : PS × List EV :=
  if p.st = 0 then (p, [prE b.toNat])
  else if p.st = 1 then escS b
  else if p.st = 2 then if b.toNat ≤ 47 then (sigS p b, []) else tolS p (esE p.it b)
  else if p.st = 3 ∨ p.st = 8 then
    if 60 ≤ b.toNat ∧ b.toNat ≤ 63 then ({ begS (p.st + 1) with pr := b }, [])
    else if 48 ≤ b.toNat ∧ b.toNat ≤ 59 then ({ begS (p.st + 1) with ps := (stpV [] b).1 }, [])
    else if b.toNat ≤ 47 then ({ begS (p.st + 2) with it := bs1 b }, [])
    else finS p b
  else if p.st = 4 ∨ p.st = 9 then
    if 60 ≤ b.toNat ∧ b.toNat ≤ 63 then (spoS p.st, [])
    else if 48 ≤ b.toNat ∧ b.toNat ≤ 59 then if (stpV p.ps b).2 ≠ 0 ∨ p.bad = true then (spoS p.st, []) else ({ p with ps := (stpV p.ps b).1 }, [])
    else if b.toNat ≤ 47 then (sigS { p with st := p.st + 1 } b, [])
    else finS p b
  else if p.st = 5 ∨ p.st = 10 then
    if 48 ≤ b.toNat ∧ b.toNat ≤ 63 then (spoS p.st, [])
    else if b.toNat ≤ 47 then (sigS p b, [])
    else finS p b
  else finS p b
/-- a byte in the initial state -/
def grdS (b : UInt8) : PS × List EV :=
  if b.toNat = 24 ∨ b.toNat = 26 then (begS 0, []) else if b.toNat = 27 then (begS 1, [])
  else if b.toNat < 32 then (begS 0, [ctE b.toNat]) else if b.toNat = 127 then (begS 0, []) else (begS 0, [prE b.toNat])
/-- a code point in Ground -/
def codS (r : PS × List EV) (c : Int) : PS × List EV :=
  if c < 32 ∨ c = 127 then ((grdS (UInt8.ofNat c.toNat)).1, r.2 ++ (grdS (UInt8.ofNat c.toNat)).2)
  else if c < 127 ∨ 159 < c then (r.1, r.2 ++ [prE c]) else r
def prtS (u : List UInt8) (b : UInt8) : PS × List EV := (stepL u b).2.foldl codS ({ begS 0 with utf := (stepL u b).1 }, [])
/-- a byte below 18 .. or any other, once Escape has been entered -/
def escB (b : UInt8) : PS × List EV :=
  if 128 ≤ b.toNat then prtS [] b else if b.toNat < 32 then (begS 1, [ctE b.toNat]) else if b.toNat = 127 then (begS 1, []) else escS b
def endS (p : PS) (b : UInt8) : PS × List EV :=
  if b.toNat ≠ 92 then escB b else if p.st = 7 then tolS p (osE p) else if p.st = 12 then tolS p (dcE p) else (begS 0, [])
def oneS (p : PS) (b : UInt8) : PS × List EV :=
  if p.st = 0 ∧ (p.utf ≠ [] ∨ 128 ≤ b.toNat) then prtS p.utf b
  else if b.toNat = 24 ∨ b.toNat = 26 then (begS 0, [])
  else if b.toNat = 27 then if p.st = 6 ∨ p.st = 11 ∨ p.st = 13 then ({ p with st := p.st + 1 }, []) else (begS 1, [])
  else if p.st = 7 ∨ p.st = 12 ∨ p.st = 14 then endS p b
  else if p.st = 6 ∨ p.st = 11 ∨ p.st = 13 then witS p b
  else if 128 ≤ b.toNat then prtS [] b
  else if b.toNat < 32 then if p.st ≤ 5 then (p, [ctE b.toNat]) else (p, [])
  else if b.toNat = 127 then (p, [])
  else goeS p b
def runS : PS × List EV → List UInt8 → PS × List EV
  | r, [] => r
  | r, b :: s => runS ((oneS r.1 b).1, r.2 ++ (oneS r.1 b).2) s
/-- validity -/
def sigB (s : ByteArray) (lo hi : Nat) : Bool := s.data.toList.all (fun c => decide (32 ≤ c.toNat) && decide (c.toNat ≤ 47)) && (decide (lo ≤ s.size) && decide (s.size ≤ hi))
def texB (s : ByteArray) : Bool := s.data.toList.all (fun c => decide (32 ≤ c.toNat) && !decide (c.toNat = 127)) && decide (s.size ≤ 512)
def hasB (n : Int) (l : List Int) : Bool := decide (n ∈ l)
def empB (p : PS) : Bool := decide (p.utf = []) && decide (p.pr = 0) && decide (p.fi = 0) && decide (p.ps = []) && decide (p.it.size = 0) && decide (p.tx.size = 0)
def leastS (n : Int) : Nat := if n = 2 ∨ n = 5 ∨ n = 10 then 1 else 0
def mostS (n : Int) : Nat := if n = 2 ∨ n = 5 ∨ n = 10 ∨ n = 11 ∨ n = 12 then 2 else 0
def mayS (p : PS) : Bool :=
  if p.st < 0 ∨ 15 ≤ p.st then false
  else if p.bad then empB p && hasB p.st [2, 4, 5, 6, 7, 9, 10, 11, 12]
  else (p.utf.isEmpty || preB p.utf) && (p.utf.isEmpty || decide (p.st = 0)) && !isBad p.ps && sigB p.it (leastS p.st) (mostS p.st)
    && (decide (p.ps = []) || hasB p.st [4, 5, 9, 10, 11, 12]) && !(hasB p.st [4, 9] && decide (p.ps = []) && decide (p.pr = 0))
    && (decide (p.pr = 0) || (decide (60 ≤ p.pr.toNat) && decide (p.pr.toNat ≤ 63) && hasB p.st [4, 5, 9, 10, 11, 12]))
    && (if hasB p.st [11, 12] then decide (64 ≤ p.fi.toNat) && decide (p.fi.toNat ≤ 126) else decide (p.fi = 0))
    && texB p.tx && (decide (p.tx.size = 0) || hasB p.st [6, 7, 11, 12])
def stpS (p : PS) (b : UInt8) : PS × List EV × Int := if mayS p then ((oneS p b).1, (oneS p b).2, 0) else (⟨0, [], 0, 0, [], nos, nos, false⟩, [], 160)
def fedS (p : PS) (s : List UInt8) : PS × List EV × Int :=
  if mayS p then if 4096 < s.length then (begS 0, [], 3) else ((runS (p, []) s).1, (runS (p, []) s).2, 0) else (begS 0, [], 160)
theorem runS_app (r : PS × List EV) (a b : List UInt8) : runS r (a ++ b) = runS (runS r a) b := by
  induction a generalizing r with
  | nil => rfl
  | cons c a ih => rw [List.cons_append, runS, runS, ih]
theorem runS_ev (p : PS) (l : List EV) (s : List UInt8) : runS (p, l) s = ((runS (p, []) s).1, l ++ (runS (p, []) s).2) := by
  induction s generalizing p l with
  | nil => simp [runS]
  | cons c s ih => rw [runS, runS, ih, ih (oneS p c).1 ([] ++ (oneS p c).2)]; simp
end Go.Proofs.YtmboekpomjgnnaaGreatDoor.Sta

namespace Go.Proofs.YtmboekpomjgnnaaGreatDoor.Sta
open Utf Par

def signB (b : UInt8) : Bool := decide (32 ≤ b.toNat) && decide (b.toNat ≤ 47)
def privB (b : UInt8) : Bool := decide (60 ≤ b.toNat) && decide (b.toNat ≤ 63)
def finlB (b : UInt8) : Bool := decide (64 ≤ b.toNat) && decide (b.toNat < 127)
def textB (b : UInt8) : Bool := decide (32 ≤ b.toNat) && !decide (b.toNat = 127)
def prnbB (b : UInt8) : Bool := decide (32 ≤ b.toNat) && decide (b.toNat < 127)
def strB (n : Int) : Bool := decide (n = 6) || decide (n = 7) || decide (n = 11) || decide (n = 12) || decide (n = 13) || decide (n = 14)
def evD (p : PS) (k : Int) (fi : UInt8) : EV := ⟨k, 0, p.pr, fi, p.ps, p.it, p.tx⟩
def dspD (p : PS) (k : Int) (fi : UInt8) : PS × List EV := if p.bad = true then (begS 0, []) else (begS 0, [evD p k fi])
def addD (p : PS) (b : UInt8) : PS := if p.it.size = 2 then spoS p.st else { p with it := p.it ++ bs1 b }
def parD (p : PS) (b : UInt8) : PS := if (stpV p.ps b).2 ≠ 0 then spoS p.st else { p with ps := (stpV p.ps b).1 }
def finD (p : PS) (b : UInt8) : PS × List EV := if p.st ≤ 5 then dspD p 4 b else ({ p with st := 11, fi := b }, [])
def escD (p : PS) (b : UInt8) : PS × List EV :=
  if signB b then (addD (begS 2) b, [])
  else if b.toNat = 91 then (begS 3, []) else if b.toNat = 93 then (begS 6, []) else if b.toNat = 80 then (begS 8, [])
  else if b.toNat = 88 ∨ b.toNat = 94 ∨ b.toNat = 95 then (begS 13, []) else dspD p 3 b
def sgnD (p : PS) (b : UInt8) : PS × List EV := if signB b then (addD p b, []) else dspD p 3 b
def parmD (p : PS) (b : UInt8) : PS × List EV :=
  if signB b then (addD { p with st := p.st + 1 } b, [])
  else if privB b then (spoS p.st, [])
  else if finlB b then finD p b
  else (parD p b, [])
def entD (p : PS) (b : UInt8) : PS × List EV :=
  if privB b then ({ p with st := p.st + 1, pr := b }, []) else parmD { p with st := p.st + 1 } b
def intD (p : PS) (b : UInt8) : PS × List EV :=
  if signB b then (addD p b, []) else if finlB b then finD p b else (spoS p.st, [])
def texD (p : PS) (b : UInt8) : PS :=
  if textB b then if p.tx.size = 512 then spoS p.st else { p with tx := p.tx ++ bs1 b } else p
def oscD (p : PS) (b : UInt8) : PS × List EV := if b.toNat = 7 then dspD p 5 0 else (texD p b, [])
/-- take in Escape -/
def tkeD (b : UInt8) : PS × List EV :=
  if b.toNat = 24 ∨ b.toNat = 26 then (begS 0, []) else if b.toNat = 27 then (begS 1, [])
  else if prnbB b then escD (begS 1) b
  else if 128 ≤ b.toNat then prtS [] b
  else if b.toNat ≠ 127 then (begS 1, [ctE b.toNat]) else (begS 1, [])
def endD (p : PS) (b : UInt8) : PS × List EV :=
  if b.toNat ≠ 92 then tkeD b else if p.st = 7 then dspD p 5 0 else if p.st = 12 then dspD p 6 p.fi else (begS 0, [])
def rulD (p : PS) (b : UInt8) : PS × List EV :=
  if p.st = 0 then (p, [prE b.toNat]) else if p.st = 1 then escD p b else if p.st = 2 then sgnD p b
  else if p.st = 3 then entD p b else if p.st = 4 then parmD p b else if p.st = 5 then intD p b
  else if p.st = 6 then oscD p b else if p.st = 7 then endD p b
  else if p.st = 8 then entD p b else if p.st = 9 then parmD p b else if p.st = 10 then intD p b
  else if p.st = 11 then (texD p b, []) else if p.st = 12 then endD p b else if p.st = 13 then (p, []) else endD p b
def rawD (p : PS) (b : UInt8) : PS × List EV :=
  if p.utf ≠ [] then prtS p.utf b
  else if b.toNat = 24 ∨ b.toNat = 26 then (begS 0, [])
  else if b.toNat = 27 then if p.st = 6 ∨ p.st = 11 ∨ p.st = 13 then ({ p with st := p.st + 1 }, []) else (begS 1, [])
  else if (strB p.st || prnbB b) = true then rulD p b
  else if 128 ≤ b.toNat then prtS [] b
  else if b.toNat ≠ 127 ∧ p.st ≤ 5 then (p, [ctE b.toNat])
  else (p, [])
def takD (p : PS) (b : UInt8) : PS × List EV := if (rawD p b).1.bad = true then (spoS (rawD p b).1.st, (rawD p b).2) else rawD p b

theorem ba_nil (s : ByteArray) (h : s.size = 0) : s = nos := by
  obtain ⟨⟨l⟩⟩ := s
  have h' : l.length = 0 := h
  have : l = [] := List.eq_nil_of_length_eq_zero h'
  subst this; rfl
theorem ba_size (s : ByteArray) (b : UInt8) : (s ++ bs1 b).size = s.size + 1 := by
  rw [ByteArray.size_append]; rfl
theorem nos_app (b : UInt8) : nos ++ bs1 b = bs1 b := rfl
/-- what a valid parse looks like, state by state -/
theorem may_bad {p : PS} (h : mayS p = true) (hb : p.bad = true) : p = spoS p.st ∧ (p.st = 2 ∨ p.st = 4 ∨ p.st = 5 ∨ p.st = 6 ∨ p.st = 7 ∨ p.st = 9 ∨ p.st = 10 ∨ p.st = 11 ∨ p.st = 12) := by
  obtain ⟨st, utf, pr, fi, ps, it, tx, bad⟩ := p
  dsimp only at hb ⊢
  subst hb
  unfold mayS at h
  dsimp only at h
  split at h
  · cases h
  · simp [empB, hasB] at h
    obtain ⟨⟨⟨⟨⟨⟨h1, h2⟩, h3⟩, h4⟩, h5⟩, h6⟩, h7⟩ := h
    subst h1; subst h2; subst h3; subst h4
    subst h5; subst h6
    exact ⟨rfl, h7⟩
theorem may_st {p : PS} (h : mayS p = true) : 0 ≤ p.st ∧ p.st < 15 := by
  unfold mayS at h
  split at h
  · cases h
  · omega
/-- the fields of a valid parse that is not spoiled -/
structure Good (p : PS) : Prop where
  lo : 0 ≤ p.st
  hi : p.st < 15
  bad : p.bad = false
  utf : p.utf = [] ∨ (preB p.utf = true ∧ p.st = 0)
  ps : isBad p.ps = false
  its : (p.it.data.toList.all (fun c => decide (32 ≤ c.toNat) && decide (c.toNat ≤ 47))) = true
  itl : leastS p.st ≤ p.it.size
  itm : p.it.size ≤ mostS p.st
  psn : p.ps = [] ∨ (p.st = 4 ∨ p.st = 5 ∨ p.st = 9 ∨ p.st = 10 ∨ p.st = 11 ∨ p.st = 12)
  ent : (p.st = 4 ∨ p.st = 9) → p.ps = [] → p.pr ≠ 0
  pr : p.pr = 0 ∨ (60 ≤ p.pr.toNat ∧ p.pr.toNat ≤ 63 ∧ (p.st = 4 ∨ p.st = 5 ∨ p.st = 9 ∨ p.st = 10 ∨ p.st = 11 ∨ p.st = 12))
  fi : ((p.st = 11 ∨ p.st = 12) ∧ 64 ≤ p.fi.toNat ∧ p.fi.toNat ≤ 126) ∨ (p.st ≠ 11 ∧ p.st ≠ 12 ∧ p.fi = 0)
  txs : (p.tx.data.toList.all (fun c => decide (32 ≤ c.toNat) && !decide (c.toNat = 127))) = true
  txl : p.tx.size ≤ 512
  txn : p.tx.size = 0 ∨ (p.st = 6 ∨ p.st = 7 ∨ p.st = 11 ∨ p.st = 12)
theorem may_good {p : PS} (hb : p.bad = false) : mayS p = true ↔ Good p := by
  constructor
  · intro h
    have h0 := may_st h
    unfold mayS at h
    rw [if_neg (by omega), if_neg (by rw [hb]; decide)] at h
    simp only [Bool.and_eq_true] at h
    obtain ⟨⟨⟨⟨⟨⟨⟨⟨⟨h1, h2⟩, h3⟩, h4⟩, h5⟩, h6⟩, h7⟩, h8⟩, h9⟩, h10⟩ := h
    refine ⟨h0.1, h0.2, hb, ?_, by simpa using h3, ?_, ?_, ?_, ?_, ?_, ?_, ?_, ?_, ?_, ?_⟩
    · by_cases e : p.utf = []
      · exact .inl e
      · right
        have e' : p.utf.isEmpty = false := by cases hu : p.utf with | nil => exact absurd hu e | cons => rfl
        rw [e', Bool.false_or] at h1 h2
        exact ⟨h1, by simpa using h2⟩
    · unfold sigB at h4; rw [Bool.and_eq_true] at h4; exact h4.1
    · unfold sigB at h4; simp only [Bool.and_eq_true, decide_eq_true_eq] at h4; exact h4.2.1
    · unfold sigB at h4; simp only [Bool.and_eq_true, decide_eq_true_eq] at h4; exact h4.2.2
    · simpa [hasB] using h5
    · intro hs he
      simp [hasB, he] at h6
      rcases h6 with h6 | h6
      · omega
      · exact h6
    · simp [hasB] at h7
      rcases h7 with h7 | h7
      · exact .inl h7
      · exact .inr ⟨h7.1.1, h7.1.2, h7.2⟩
    · by_cases e : p.st = 11 ∨ p.st = 12
      · left
        rw [if_pos (by simpa [hasB] using e)] at h8
        simp only [Bool.and_eq_true, decide_eq_true_eq] at h8
        exact ⟨e, h8.1, h8.2⟩
      · right
        rw [if_neg (by simpa [hasB] using e)] at h8
        exact ⟨by omega, by omega, by simpa using h8⟩
    · unfold texB at h9; rw [Bool.and_eq_true] at h9; exact h9.1
    · unfold texB at h9; simp only [Bool.and_eq_true, decide_eq_true_eq] at h9; exact h9.2
    · simpa [hasB] using h10
  · intro h
    unfold mayS
    rw [if_neg (by have := h.lo; have := h.hi; omega), if_neg (by rw [hb]; decide)]
    simp only [Bool.and_eq_true]
    refine ⟨⟨⟨⟨⟨⟨⟨⟨⟨?_, ?_⟩, ?_⟩, ?_⟩, ?_⟩, ?_⟩, ?_⟩, ?_⟩, ?_⟩, ?_⟩
    · rcases h.utf with e | e
      · rw [e]; rfl
      · rw [e.1]; simp
    · rcases h.utf with e | e
      · rw [e]; rfl
      · simp [e.2]
    · simp [h.ps]
    · unfold sigB; rw [Bool.and_eq_true]; exact ⟨h.its, by simp [h.itl, h.itm]⟩
    · simpa [hasB] using h.psn
    · simp only [hasB, Bool.not_eq_true', Bool.and_eq_false_iff, decide_eq_false_iff_not]
      by_cases e1 : p.st = 4 ∨ p.st = 9
      · by_cases e2 : p.ps = []
        · right; exact h.ent e1 e2
        · left; right; exact e2
      · left; left; simpa using e1
    · have := h.pr
      simp [hasB]
      rcases this with h7 | h7
      · exact .inl h7
      · exact .inr ⟨⟨h7.1, h7.2.1⟩, h7.2.2⟩
    · rcases h.fi with ⟨e1, e2, e3⟩ | ⟨e1, e2, e3⟩
      · rw [if_pos (by simpa [hasB] using e1)]; simp [e2, e3]
      · rw [if_neg (by simp [hasB]; omega)]; simp [e3]
    · unfold texB; rw [Bool.and_eq_true]; exact ⟨h.txs, by simp [h.txl]⟩
    · simpa [hasB] using h.txn
end Go.Proofs.YtmboekpomjgnnaaGreatDoor.Sta

namespace Go.Proofs.YtmboekpomjgnnaaGreatDoor.Sta
open Utf Par

def post (r : PS × List EV) : PS × List EV := if r.1.bad = true then (spoS r.1.st, r.2) else r
theorem tak_post (p : PS) (b : UInt8) : takD p b = post (rawD p b) := rfl
theorem post_ok {r : PS × List EV} (h : r.1.bad = false) : post r = r := by unfold post; rw [if_neg (by rw [h]; decide)]
theorem post_sp (n : Int) (l : List EV) : post (spoS n, l) = (spoS n, l) := rfl
theorem prt_bad (u : List UInt8) (b : UInt8) : (prtS u b).1.bad = false := by
  unfold prtS
  have : ∀ (cs : List Int) (r : PS × List EV), r.1.bad = false → (cs.foldl codS r).1.bad = false := by
    intro cs
    induction cs with
    | nil => intro r h; exact h
    | cons c cs ih =>
      intro r h
      refine ih _ ?_
      unfold codS
      split
      · unfold grdS; repeat' split
        all_goals rfl
      · split <;> exact h
  exact this _ _ rfl
theorem dsp_bad (p : PS) (k : Int) (fi : UInt8) : (dspD p k fi).1.bad = false := by unfold dspD; split <;> rfl
theorem add_post (p : PS) (b : UInt8) (l : List EV) (h : p.bad = false) : post (addD p b, l) = (addD p b, l) := by
  unfold addD
  split
  · rfl
  · exact post_ok h
theorem par_post (p : PS) (b : UInt8) (l : List EV) (h : p.bad = false) : post (parD p b, l) = (parD p b, l) := by
  unfold parD
  split
  · rfl
  · exact post_ok h
theorem esc_same (b : UInt8) (h : 32 ≤ b.toNat) (h2 : b.toNat < 127) : escD (begS 1) b = escS b := by
  unfold escD escS
  by_cases h1 : b.toNat ≤ 47
  · rw [if_pos (by unfold signB; simp [h, h1]), if_neg (by omega), if_neg (by omega), if_neg (by omega), if_neg (by omega), if_pos h1]
    rfl
  · rw [if_neg (by unfold signB; simp [h1]), if_neg h1]
    split
    · rfl
    · split
      · rfl
      · split
        · rfl
        · split
          · rfl
          · rfl
theorem tke_same (b : UInt8) : tkeD b = if b.toNat = 24 ∨ b.toNat = 26 then (begS 0, []) else if b.toNat = 27 then (begS 1, []) else escB b := by
  unfold tkeD escB
  split
  · rfl
  · split
    · rfl
    · by_cases h : prnbB b = true
      · rw [if_pos h]
        unfold prnbB at h
        simp only [Bool.and_eq_true, decide_eq_true_eq] at h
        rw [if_neg (by omega), if_neg (by omega), if_neg (by omega), esc_same b h.1 h.2]
      · rw [if_neg h]
        unfold prnbB at h
        simp only [Bool.and_eq_true, decide_eq_true_eq] at h
        by_cases h1 : 128 ≤ b.toNat
        · rw [if_pos h1, if_pos h1]
        · rw [if_neg h1, if_neg h1]
          by_cases h2 : b.toNat < 32
          · rw [if_pos (by omega), if_pos h2]
          · rw [if_neg (by omega), if_neg h2, if_pos (by omega)]
theorem Good.eta (p : PS) : p = ⟨p.st, p.utf, p.pr, p.fi, p.ps, p.it, p.tx, p.bad⟩ := rfl
theorem fin_same {p : PS} (b : UInt8) (h : Good p) (hs : p.st = 3 ∨ p.st = 4 ∨ p.st = 5 ∨ p.st = 8 ∨ p.st = 9 ∨ p.st = 10) : finD p b = finS p b := by
  have ht : p.tx = nos := ba_nil _ (by have := h.txn; omega)
  unfold finD finS
  split
  · unfold dspD tolS csE evD
    rw [ht]
  · rw [if_neg (by rw [h.bad]; decide)]
theorem stp_nil (b : UInt8) (h1 : 48 ≤ b.toNat) (h2 : b.toNat ≤ 59) : (stpV [] b).2 = 0 := by
  unfold stpV
  rw [if_neg (by decide)]
  split
  · rfl
  · split
    · rw [if_neg (by decide)]
    · split
      · rw [if_neg (by decide)]
      · omega
theorem fin_post (q : PS) (b : UInt8) (h : q.bad = false) : post (finD q b) = finD q b := by
  unfold finD
  split
  · exact post_ok (dsp_bad _ _ _)
  · exact post_ok h
theorem classB (b : UInt8) (h1 : 32 ≤ b.toNat) (h2 : b.toNat < 127) : signB b = decide (b.toNat ≤ 47) ∧ privB b = (decide (60 ≤ b.toNat) && decide (b.toNat ≤ 63)) ∧ finlB b = decide (64 ≤ b.toNat) := by
  unfold signB privB finlB; simp [h1, h2]
theorem parm_same {p : PS} (b : UInt8) (h : Good p) (hs : p.st = 4 ∨ p.st = 9) (h1 : 32 ≤ b.toNat) (h2 : b.toNat < 127) : post (rulD p b) = goeS p b := by
  have hbad := h.bad
  obtain ⟨c1, c2, c3⟩ := classB b h1 h2
  have hr : rulD p b = parmD p b := by
    unfold rulD
    rcases hs with e | e <;> simp [e]
  have hg : goeS p b = if 60 ≤ b.toNat ∧ b.toNat ≤ 63 then (spoS p.st, [])
    else if 48 ≤ b.toNat ∧ b.toNat ≤ 59 then if (stpV p.ps b).2 ≠ 0 ∨ p.bad = true then (spoS p.st, []) else ({ p with ps := (stpV p.ps b).1 }, [])
    else if b.toNat ≤ 47 then (sigS { p with st := p.st + 1 } b, [])
    else finS p b := by
    unfold goeS
    rcases hs with e | e <;> simp [e]
  have hit : p.it = nos := ba_nil _ (by have := h.itm; unfold mostS at this; rcases hs with e | e <;> simp [e] at this <;> rw [this] <;> rfl)
  rw [hr, hg]
  unfold parmD
  rw [c1, c2, c3]
  by_cases k1 : b.toNat ≤ 47
  · rw [if_pos (by simpa using k1), if_neg (by omega), if_neg (by omega), if_pos k1, add_post { p with st := p.st + 1 } _ _ hbad]
    unfold addD sigS
    dsimp only
    rw [hit, if_neg (by decide), if_neg (by rw [hbad]; decide)]
  · rw [if_neg (by simpa using k1)]
    by_cases k2 : 60 ≤ b.toNat ∧ b.toNat ≤ 63
    · rw [if_pos (by simpa using k2), if_pos k2]; rfl
    · rw [if_neg (by simpa using k2), if_neg k2]
      by_cases k3 : 64 ≤ b.toNat
      · rw [if_pos (by simpa using k3), if_neg (by omega), if_neg k1, fin_post _ _ hbad, fin_same b h (by omega)]
      · rw [if_neg (by simpa using k3), if_pos (by omega), par_post _ _ _ hbad]
        unfold parD
        by_cases k4 : (stpV p.ps b).2 ≠ 0
        · rw [if_pos k4, if_pos (.inl k4)]
        · rw [if_neg k4, if_neg (by rintro (x | x); exact k4 x; rw [hbad] at x; cases x)]
theorem int_same {p : PS} (b : UInt8) (h : Good p) (hs : p.st = 5 ∨ p.st = 10) (h1 : 32 ≤ b.toNat) (h2 : b.toNat < 127) : post (rulD p b) = goeS p b := by
  have hbad := h.bad
  obtain ⟨c1, c2, c3⟩ := classB b h1 h2
  have hr : rulD p b = intD p b := by
    unfold rulD
    rcases hs with e | e <;> simp [e]
  have hg : goeS p b = if 48 ≤ b.toNat ∧ b.toNat ≤ 63 then (spoS p.st, [])
    else if b.toNat ≤ 47 then (sigS p b, [])
    else finS p b := by
    unfold goeS
    rcases hs with e | e <;> simp [e]
  rw [hr, hg]
  unfold intD
  rw [c1, c3]
  by_cases k1 : b.toNat ≤ 47
  · rw [if_pos (by simpa using k1), if_neg (by omega), if_pos k1, add_post _ _ _ hbad]
    unfold addD sigS
    by_cases hz : p.it.size = 2
    · rw [if_pos hz, if_pos (.inr hz)]
    · rw [if_neg hz, if_neg (by rintro (x | x); rw [hbad] at x; cases x; exact hz x)]
  · rw [if_neg (by simpa using k1)]
    by_cases k3 : 64 ≤ b.toNat
    · rw [if_pos (by simpa using k3), if_neg (by omega), if_neg k1, fin_post _ _ hbad, fin_same b h (by omega)]
    · rw [if_neg (by simpa using k3), if_pos (by omega)]; rfl
theorem ent_same {p : PS} (b : UInt8) (h : Good p) (hu : p.utf = []) (hs : p.st = 3 ∨ p.st = 8) (h1 : 32 ≤ b.toNat) (h2 : b.toNat < 127) : post (rulD p b) = goeS p b := by
  obtain ⟨c1, c2, c3⟩ := classB b h1 h2
  have hp : p = begS p.st := by
    obtain ⟨st, utf, pr, fi, ps, it, tx, bad⟩ := p
    have hbad := h.bad
    dsimp only at hu hs hbad ⊢
    have a1 := h.psn; have a2 := h.pr; have a3 := h.fi; have a4 := h.txn; have a5 := h.itm
    unfold mostS at a5
    dsimp only at a1 a2 a3 a4 a5
    have b1 : ps = [] := by rcases a1 with x | x; exact x; omega
    have b2 : pr = 0 := by rcases a2 with x | x; exact x; omega
    have b3 : fi = 0 := by rcases a3 with x | x; omega; exact x.2.2
    have b4 : tx = nos := ba_nil _ (by omega)
    have b5 : it = nos := ba_nil _ (by rw [if_neg (by omega)] at a5; omega)
    rw [hu, b1, b2, b3, b4, b5, hbad]; rfl
  have hr : rulD p b = entD p b := by
    unfold rulD
    rcases hs with e | e <;> simp [e]
  have hg : goeS p b = if 60 ≤ b.toNat ∧ b.toNat ≤ 63 then ({ begS (p.st + 1) with pr := b }, [])
    else if 48 ≤ b.toNat ∧ b.toNat ≤ 59 then ({ begS (p.st + 1) with ps := (stpV [] b).1 }, [])
    else if b.toNat ≤ 47 then ({ begS (p.st + 2) with it := bs1 b }, [])
    else finS p b := by
    unfold goeS
    rcases hs with e | e <;> simp [e]
  rw [hr, hg]
  generalize p.st = n at *
  subst hp
  unfold entD
  rw [c2]
  by_cases k2 : 60 ≤ b.toNat ∧ b.toNat ≤ 63
  · rw [if_pos (by simpa using k2), if_pos k2]; rfl
  · rw [if_neg (by simpa using k2), if_neg k2]
    unfold parmD
    rw [c1, c2, c3]
    by_cases k1 : b.toNat ≤ 47
    · rw [if_pos (by simpa using k1), if_neg (by omega), if_pos k1, add_post _ _ _ rfl]
      rw [show n + 2 = n + 1 + 1 by omega]
      rfl
    · rw [if_neg (by simpa using k1), if_neg (by simpa using k2)]
      by_cases k3 : 64 ≤ b.toNat
      · rw [if_pos (by simpa using k3), if_neg (by omega), if_neg k1, fin_post _ _ rfl]
        rcases hs with e | e <;> subst e <;> rfl
      · rw [if_neg (by simpa using k3), if_pos (by omega), par_post _ _ _ rfl]
        unfold parD
        rw [if_neg (by show ¬ (stpV [] b).2 ≠ 0; rw [stp_nil b (by omega) (by omega)]; decide)]
        rfl
theorem goe_same {p : PS} (b : UInt8) (h : Good p) (hu : p.utf = []) (hs : strB p.st = false) (h1 : 32 ≤ b.toNat) (h2 : b.toNat < 127) : post (rulD p b) = goeS p b := by
  have hbad := h.bad
  have hlo := h.lo
  have hhi := h.hi
  have hst : p.st = 0 ∨ p.st = 1 ∨ p.st = 2 ∨ p.st = 3 ∨ p.st = 4 ∨ p.st = 5 ∨ p.st = 8 ∨ p.st = 9 ∨ p.st = 10 := by
    unfold strB at hs; simp at hs; omega
  have nb : ∀ x, p.bad = true → x := fun x h => by rw [hbad] at h; cases h
  have hsg : signB b = decide (b.toNat ≤ 47) := by unfold signB; simp [h1]
  have ndg : ∀ q : PS, q.bad = false → (post (finD q b)) = finD q b := fun q hq => by
    unfold finD
    split
    · exact post_ok (dsp_bad _ _ _)
    · exact post_ok hq
  rcases hst with e | e | e | e | e | e | e | e | e
  · unfold rulD goeS; rw [if_pos e, if_pos e]; exact post_ok hbad
  · have hp : p = begS 1 := by
      obtain ⟨st, utf, pr, fi, ps, it, tx, bad⟩ := p
      dsimp only at *
      subst e
      have a1 := h.psn; have a2 := h.pr; have a3 := h.fi; have a4 := h.txn; have a5 := h.itm
      simp [mostS] at a1 a2 a3 a4 a5
      subst a1; subst a2; subst a3; subst hu; subst hbad; subst a4; subst a5
      rfl
    unfold rulD goeS
    rw [if_neg (by omega), if_pos e, if_neg (by omega), if_pos e, hp, esc_same b h1 h2]
    unfold escS
    repeat' split
    all_goals rfl
  · unfold rulD goeS
    rw [if_neg (by omega), if_neg (by omega), if_pos e, if_neg (by omega), if_neg (by omega), if_pos e]
    unfold sgnD
    rw [hsg]
    by_cases hb : b.toNat ≤ 47
    · rw [if_pos (by simpa using hb), if_pos hb, add_post _ _ _ hbad]
      unfold addD sigS
      by_cases hz : p.it.size = 2
      · rw [if_pos hz, if_pos (.inr hz)]
      · rw [if_neg hz, if_neg (by rintro (x | x); exact nb _ x; exact hz x)]
    · rw [if_neg (by simpa using hb), if_neg hb, post_ok (dsp_bad _ _ _)]
      have a1 := h.psn; have a2 := h.pr; have a4 := h.txn
      have b1 : p.ps = [] := by rcases a1 with x | x; exact x; omega
      have b2 : p.pr = 0 := by rcases a2 with x | x; exact x; omega
      have b4 : p.tx = nos := ba_nil _ (by omega)
      unfold dspD tolS esE evD
      rw [b1, b2, b4]
  · exact ent_same b h hu (.inl e) h1 h2
  · exact parm_same b h (.inl e) h1 h2
  · exact int_same b h (.inl e) h1 h2
  · exact ent_same b h hu (.inr e) h1 h2
  · exact parm_same b h (.inr e) h1 h2
  · exact int_same b h (.inr e) h1 h2
end Go.Proofs.YtmboekpomjgnnaaGreatDoor.Sta

namespace Go.Proofs.YtmboekpomjgnnaaGreatDoor.Sta
open Utf Par

theorem end_same {p : PS} (b : UInt8) (h : Good p) (h0 : b.toNat ≠ 24) (h1 : b.toNat ≠ 26) (h2 : b.toNat ≠ 27) : post (endD p b) = endS p b := by
  have hpr : (p.st = 7 → p.pr = 0 ∧ p.ps = [] ∧ p.it = nos) := fun e => by
    have a1 := h.psn; have a2 := h.pr; have a5 := h.itm
    unfold mostS at a5
    rw [e] at a5
    refine ⟨?_, ?_, ba_nil _ ?_⟩
    · rcases a2 with x | x; exact x; omega
    · rcases a1 with x | x; exact x; omega
    · simp at a5; rw [a5]; rfl
  unfold endD endS
  by_cases k : b.toNat ≠ 92
  · rw [if_pos k, if_pos k, tke_same, if_neg (by omega), if_neg h2]
    refine post_ok ?_
    unfold escB
    split
    · exact prt_bad _ _
    · split
      · rfl
      · split
        · rfl
        · unfold escS
          repeat' split
          all_goals rfl
  · rw [if_neg k, if_neg k]
    by_cases e : p.st = 7
    · rw [if_pos e, if_pos e, post_ok (dsp_bad _ _ _)]
      obtain ⟨x1, x2, x3⟩ := hpr e
      unfold dspD tolS osE evD
      rw [x1, x2, x3]
    · rw [if_neg e, if_neg e]
      by_cases e2 : p.st = 12
      · rw [if_pos e2, if_pos e2, post_ok (dsp_bad _ _ _)]; rfl
      · rw [if_neg e2, if_neg e2]; rfl
theorem wit_same {p : PS} (b : UInt8) (h : Good p) (hs : p.st = 6 ∨ p.st = 11 ∨ p.st = 13) : post (rulD p b) = witS p b := by
  have hbad := h.bad
  have txt : p.st ≠ 13 → post (texD p b, []) = (if b.toNat < 32 ∨ b.toNat = 127 ∨ p.st = 13 ∨ p.bad = true then (p, []) else if p.tx.size = 512 then (spoS p.st, []) else ({ p with tx := p.tx ++ bs1 b }, [])) := fun hn => by
    unfold texD
    by_cases k : textB b = true
    · have k' := k
      unfold textB at k'
      simp at k'
      rw [if_pos k, if_neg (c := b.toNat < 32 ∨ b.toNat = 127 ∨ p.st = 13 ∨ p.bad = true) (by rw [hbad]; simp; omega)]
      by_cases z : p.tx.size = 512
      · rw [if_pos z, if_pos z]; rfl
      · rw [if_neg z, if_neg z]; exact post_ok hbad
    · have k' := k
      unfold textB at k'
      simp at k'
      rw [if_neg k, if_pos (by omega)]
      exact post_ok hbad
  rcases hs with e | e | e
  · have hr : rulD p b = oscD p b := by unfold rulD; simp [e]
    rw [hr]
    unfold oscD witS
    by_cases k : b.toNat = 7
    · rw [if_pos k, if_pos ⟨e, k⟩, post_ok (dsp_bad _ _ _)]
      have a1 := h.psn; have a2 := h.pr; have a5 := h.itm
      unfold mostS at a5
      rw [e] at a5
      have x1 : p.pr = 0 := by rcases a2 with x | x; exact x; omega
      have x2 : p.ps = [] := by rcases a1 with x | x; exact x; omega
      have x3 : p.it = nos := ba_nil _ (by simp at a5; rw [a5]; rfl)
      unfold dspD tolS osE evD
      rw [x1, x2, x3]
    · rw [if_neg k, if_neg (by rintro ⟨_, x⟩; exact k x)]
      exact txt (by omega)
  · have hr : rulD p b = (texD p b, []) := by unfold rulD; simp [e]
    rw [hr]
    unfold witS
    rw [if_neg (by rintro ⟨x, _⟩; omega)]
    exact txt (by omega)
  · have hr : rulD p b = (p, []) := by unfold rulD; simp [e]
    rw [hr]
    unfold witS
    rw [if_neg (by rintro ⟨x, _⟩; omega), if_pos (.inr (.inr (.inl e)))]
    exact post_ok hbad
theorem str_iff (n : Int) : strB n = true ↔ n = 6 ∨ n = 7 ∨ n = 11 ∨ n = 12 ∨ n = 13 ∨ n = 14 := by unfold strB; simp; omega
theorem tak_good {p : PS} (b : UInt8) (h : Good p) : takD p b = oneS p b := by
  have hbad := h.bad
  rw [tak_post]
  unfold rawD oneS
  by_cases u : p.utf ≠ []
  · have hs : p.st = 0 := by rcases h.utf with x | x; exact absurd x u; exact x.2
    rw [if_pos u, if_pos ⟨hs, .inl u⟩]
    exact post_ok (prt_bad _ _)
  · have u' : p.utf = [] := by simpa using u
    rw [if_neg u]
    by_cases g : p.st = 0 ∧ (p.utf ≠ [] ∨ 128 ≤ b.toNat)
    · have g1 : 128 ≤ b.toNat := by rcases g.2 with x | x; exact absurd u' x; exact x
      rw [if_neg (by omega), if_neg (by omega), if_neg (by rw [g.1]; unfold strB prnbB; simp; omega), if_pos g1, if_pos g, u']
      exact post_ok (prt_bad _ _)
    · rw [if_neg g]
      by_cases k1 : b.toNat = 24 ∨ b.toNat = 26
      · rw [if_pos k1, if_pos k1]; rfl
      · rw [if_neg k1, if_neg k1]
        by_cases k2 : b.toNat = 27
        · rw [if_pos k2, if_pos k2]
          split
          · exact post_ok hbad
          · rfl
        · rw [if_neg k2, if_neg k2]
          by_cases s1 : p.st = 7 ∨ p.st = 12 ∨ p.st = 14
          · rw [if_pos (by rw [(str_iff _).2 (by omega)]; rfl), if_pos s1]
            have : rulD p b = endD p b := by unfold rulD; rcases s1 with e | e | e <;> simp [e]
            rw [this]
            exact end_same b h (by omega) (by omega) k2
          · rw [if_neg s1]
            by_cases s2 : p.st = 6 ∨ p.st = 11 ∨ p.st = 13
            · rw [if_pos (by rw [(str_iff _).2 (by omega)]; rfl), if_pos s2]
              exact wit_same b h s2
            · rw [if_neg s2]
              have s3 : strB p.st = false := by
                cases x : strB p.st with
                | false => rfl
                | true => have := (str_iff _).1 x; omega
              rw [s3, Bool.false_or]
              by_cases k3 : 128 ≤ b.toNat
              · rw [if_neg (by unfold prnbB; simp; omega), if_pos k3, if_pos k3]
                exact post_ok (prt_bad _ _)
              · rw [if_neg k3]
                by_cases k4 : b.toNat < 32
                · rw [if_neg (by unfold prnbB; simp; omega), if_neg k3, if_pos k4]
                  by_cases k5 : p.st ≤ 5
                  · rw [if_pos ⟨by omega, k5⟩, if_pos k5]; exact post_ok hbad
                  · rw [if_neg (by rintro ⟨_, x⟩; exact k5 x), if_neg k5]; exact post_ok hbad
                · rw [if_neg k4]
                  by_cases k5 : b.toNat = 127
                  · rw [if_neg (by unfold prnbB; simp; omega), if_neg k3, if_neg (by rintro ⟨x, _⟩; exact x k5), if_pos k5]; exact post_ok hbad
                  · rw [if_pos (by unfold prnbB; simp; omega), if_neg k3, if_neg k5]
                    exact goe_same b h u' s3 (by omega) (by omega)
end Go.Proofs.YtmboekpomjgnnaaGreatDoor.Sta
