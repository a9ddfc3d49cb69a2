/-
  Layer 6 in plain words, without memory: parses, events, what a byte does.
-/
import Derived.Test.YtefkbdmgplfgoaaGreatDoorUtfMath
import Derived.Test.YtefkbdmgplfgoaaGreatDoorParMath
import Derived.WalkKit
namespace Go.Proofs.YtefkbdmgplfgoaaGreatDoor.Sta
open Utf Par

/-- a parse -/
structure PS where
  st : Int
  utf : List UInt8
  pr : UInt8
  fi : UInt8
  ps : List (List Int)
  it : ByteArray
  tx : ByteArray
  bad : Bool
/-- an event -/
structure EV where
  k : Int
  c : Int
  pr : UInt8
  fi : UInt8
  ps : List (List Int)
  it : ByteArray
  tx : ByteArray
def nos : ByteArray := ⟨#[]⟩
def bs1 (b : UInt8) : ByteArray := ⟨#[b]⟩
def begS (n : Int) : PS := ⟨n, [], 0, 0, [], nos, nos, false⟩
def spoS (n : Int) : PS := ⟨n, [], 0, 0, [], nos, nos, true⟩
def prE (c : Int) : EV := ⟨1, c, 0, 0, [], nos, nos⟩
def ctE (c : Int) : EV := ⟨2, c, 0, 0, [], nos, nos⟩
def esE (it : ByteArray) (fi : UInt8) : EV := ⟨3, 0, 0, fi, [], it, nos⟩
def csE (p : PS) (fi : UInt8) : EV := ⟨4, 0, p.pr, fi, p.ps, p.it, nos⟩
def osE (p : PS) : EV := ⟨5, 0, 0, 0, [], nos, p.tx⟩
def dcE (p : PS) : EV := ⟨6, 0, p.pr, p.fi, p.ps, p.it, p.tx⟩
def tolS (p : PS) (e : EV) : PS × List EV := if p.bad then (begS 0, []) else (begS 0, [e])
def sigS (p : PS) (b : UInt8) : PS := if p.bad = true ∨ p.it.size = 2 then spoS p.st else { p with it := p.it ++ bs1 b }
def escS (b : UInt8) : PS × List EV :=
  if b.toNat = 91 then (begS 3, []) else if b.toNat = 93 then (begS 6, []) else if b.toNat = 80 then (begS 8, [])
  else if b.toNat = 88 ∨ b.toNat = 94 ∨ b.toNat = 95 then (begS 13, [])
  else if b.toNat ≤ 47 then ({ begS 2 with it := bs1 b }, []) else (begS 0, [esE nos b])
/-- a byte of a string -/
def witS (p : PS) (b : UInt8) : PS × List EV :=
  if p.st = 6 ∧ b.toNat = 7 then tolS p (osE p)
  else if b.toNat < 32 ∨ b.toNat = 127 ∨ p.st = 13 ∨ p.bad = true then (p, [])
  else if p.tx.size = 512 then (spoS p.st, [])
  else ({ p with tx := p.tx ++ bs1 b }, [])
/-- a final byte -/
def finS (p : PS) (b : UInt8) : PS × List EV :=
  if p.st ≤ 5 then tolS p (csE p b) else if p.bad then ({ p with st := 11 }, []) else ({ p with st := 11, fi := b }, [])
/-- a byte from 20 to 7E -/
def goeS (p : PS) (b : UInt8) : PS × List EV :=
  if p.st = 0 then (p, [prE b.toNat])
  else if p.st = 1 then escS b
  else if p.st = 2 then if b.toNat ≤ 47 then (sigS p b, []) else tolS p (esE p.it b)
  else if p.st = 3 ∨ p.st = 8 then
    if 60 ≤ b.toNat ∧ b.toNat ≤ 63 then ({ begS (p.st + 1) with pr := b }, [])
    else if 48 ≤ b.toNat ∧ b.toNat ≤ 59 then ({ begS (p.st + 1) with ps := (stpV [] b).1 }, [])
    else if b.toNat ≤ 47 then ({ begS (p.st + 2) with it := bs1 b }, [])
    else finS p b
  else if p.st = 4 ∨ p.st = 9 then
    if 60 ≤ b.toNat ∧ b.toNat ≤ 63 then (spoS p.st, [])
    else if 48 ≤ b.toNat ∧ b.toNat ≤ 59 then if (stpV p.ps b).2 ≠ 0 ∨ p.bad = true then (spoS p.st, []) else ({ p with ps := (stpV p.ps b).1 }, [])
    else if b.toNat ≤ 47 then (sigS { p with st := p.st + 1 } b, [])
    else finS p b
  else if p.st = 5 ∨ p.st = 10 then
    if 48 ≤ b.toNat ∧ b.toNat ≤ 63 then (spoS p.st, [])
    else if b.toNat ≤ 47 then (sigS p b, [])
    else finS p b
  else finS p b
/-- a byte in the initial state -/
def grdS (b : UInt8) : PS × List EV :=
  if b.toNat = 24 ∨ b.toNat = 26 then (begS 0, []) else if b.toNat = 27 then (begS 1, [])
  else if b.toNat < 32 then (begS 0, [ctE b.toNat]) else if b.toNat = 127 then (begS 0, []) else (begS 0, [prE b.toNat])
/-- a code point in Ground -/
def codS (r : PS × List EV) (c : Int) : PS × List EV :=
  if c < 32 ∨ c = 127 then ((grdS (UInt8.ofNat c.toNat)).1, r.2 ++ (grdS (UInt8.ofNat c.toNat)).2)
  else if c < 127 ∨ 159 < c then (r.1, r.2 ++ [prE c]) else r
def prtS (u : List UInt8) (b : UInt8) : PS × List EV := (stepL u b).2.foldl codS ({ begS 0 with utf := (stepL u b).1 }, [])
/-- a byte below 18 .. or any other, once Escape has been entered -/
def escB (b : UInt8) : PS × List EV :=
  if 128 ≤ b.toNat then prtS [] b else if b.toNat < 32 then (begS 1, [ctE b.toNat]) else if b.toNat = 127 then (begS 1, []) else escS b
def endS (p : PS) (b : UInt8) : PS × List EV :=
  if b.toNat ≠ 92 then escB b else if p.st = 7 then tolS p (osE p) else if p.st = 12 then tolS p (dcE p) else (begS 0, [])
def oneS (p : PS) (b : UInt8) : PS × List EV :=
  if p.st = 0 ∧ (p.utf ≠ [] ∨ 128 ≤ b.toNat) then prtS p.utf b
  else if b.toNat = 24 ∨ b.toNat = 26 then (begS 0, [])
  else if b.toNat = 27 then if p.st = 6 ∨ p.st = 11 ∨ p.st = 13 then ({ p with st := p.st + 1 }, []) else (begS 1, [])
  else if p.st = 7 ∨ p.st = 12 ∨ p.st = 14 then endS p b
  else if p.st = 6 ∨ p.st = 11 ∨ p.st = 13 then witS p b
  else if 128 ≤ b.toNat then prtS [] b
  else if b.toNat < 32 then if p.st ≤ 5 then (p, [ctE b.toNat]) else (p, [])
  else if b.toNat = 127 then (p, [])
  else goeS p b
def runS : PS × List EV → List UInt8 → PS × List EV
  | r, [] => r
  | r, b :: s => runS ((oneS r.1 b).1, r.2 ++ (oneS r.1 b).2) s
/-- validity -/
def sigB (s : ByteArray) (lo hi : Nat) : Bool := s.data.toList.all (fun c => decide (32 ≤ c.toNat) && decide (c.toNat ≤ 47)) && (decide (lo ≤ s.size) && decide (s.size ≤ hi))
def texB (s : ByteArray) : Bool := s.data.toList.all (fun c => decide (32 ≤ c.toNat) && !decide (c.toNat = 127)) && decide (s.size ≤ 512)
def hasB (n : Int) (l : List Int) : Bool := decide (n ∈ l)
def empB (p : PS) : Bool := decide (p.utf = []) && decide (p.pr = 0) && decide (p.fi = 0) && decide (p.ps = []) && decide (p.it.size = 0) && decide (p.tx.size = 0)
def leastS (n : Int) : Nat := if n = 2 ∨ n = 5 ∨ n = 10 then 1 else 0
def mostS (n : Int) : Nat := if n = 2 ∨ n = 5 ∨ n = 10 ∨ n = 11 ∨ n = 12 then 2 else 0
def mayS (p : PS) : Bool :=
  if p.st < 0 ∨ 15 ≤ p.st then false
  else if p.bad then empB p && hasB p.st [2, 4, 5, 6, 7, 9, 10, 11, 12]
  else (p.utf.isEmpty || preB p.utf) && (p.utf.isEmpty || decide (p.st = 0)) && !isBad p.ps && sigB p.it (leastS p.st) (mostS p.st)
    && (decide (p.ps = []) || hasB p.st [4, 5, 9, 10, 11, 12]) && !(hasB p.st [4, 9] && decide (p.ps = []) && decide (p.pr = 0))
    && (decide (p.pr = 0) || (decide (60 ≤ p.pr.toNat) && decide (p.pr.toNat ≤ 63) && hasB p.st [4, 5, 9, 10, 11, 12]))
    && (if hasB p.st [11, 12] then decide (64 ≤ p.fi.toNat) && decide (p.fi.toNat ≤ 126) else decide (p.fi = 0))
    && texB p.tx && (decide (p.tx.size = 0) || hasB p.st [6, 7, 11, 12])
def stpS (p : PS) (b : UInt8) : PS × List EV × Int := if mayS p then ((oneS p b).1, (oneS p b).2, 0) else (⟨0, [], 0, 0, [], nos, nos, false⟩, [], 160)
def fedS (p : PS) (s : List UInt8) : PS × List EV × Int :=
  if mayS p then if 4096 < s.length then (begS 0, [], 3) else ((runS (p, []) s).1, (runS (p, []) s).2, 0) else (begS 0, [], 160)
theorem runS_app (r : PS × List EV) (a b : List UInt8) : runS r (a ++ b) = runS (runS r a) b := by
  induction a generalizing r with
  | nil => rfl
  | cons c a ih => rw [List.cons_append, runS, runS, ih]
theorem runS_ev (p : PS) (l : List EV) (s : List UInt8) : runS (p, l) s = ((runS (p, []) s).1, l ++ (runS (p, []) s).2) := by
  induction s generalizing p l with
  | nil => simp [runS]
  | cons c s ih => rw [runS, runS, ih, ih (oneS p c).1 ([] ++ (oneS p c).2)]; simp
end Go.Proofs.YtefkbdmgplfgoaaGreatDoor.Sta
