/-
  StyMath
-/
import Derived.Laws.BitsAllLaws
import Derived.Test.YteepfecplabinaaDoorP0
namespace Go.Proofs.YteepfecplabinaaDoor.Sty
open Col

/-- a style: its eight numbers -/
structure S8 where
  a : Int
  u : Int
  f0 : Int
  f1 : Int
  b0 : Int
  b1 : Int
  l0 : Int
  l1 : Int
deriving DecidableEq
/-- an action: its numbers and its text -/
structure P6 where
  k : Int
  n : Int
  m : Int
  c0 : Int
  c1 : Int
  t : ByteArray

def z8 : S8 := ⟨0, 0, 0, 0, 0, 0, 0, 0⟩
/-- the style's numbers are in their ranges -/
def inR (a u : Int) : Bool := decide (0 ≤ a ∧ a ≤ 255 ∧ 0 ≤ u ∧ u ≤ 5)
def errS (s : S8) : Int := if inR s.a s.u then (if okC s.f0 s.f1 && (okC s.b0 s.b1 && okC s.l0 s.l1) then 0 else 130) else 140
/-- exactly one attribute -/
def attr (m : Int) : Bool := decide (m = 1 ∨ m = 2 ∨ m = 4 ∨ m = 8 ∨ m = 16 ∨ m = 32 ∨ m = 64 ∨ m = 128)
def none2 (c0 c1 : Int) : Bool := c0 == 0 && c1 == 0
/-- M and Color are as N asks -/
def fitP (n m c0 c1 : Int) : Bool :=
  if n = 0 then none2 c0 c1 && m == 0
  else if n = 1 then none2 c0 c1 && attr m
  else if n = 2 then none2 c0 c1 && (m == 3 || (attr m && (m != 1 && m != 2)))
  else if n = 3 then none2 c0 c1 && (decide (0 ≤ m) && decide (m ≤ 5))
  else if n = 4 ∨ n = 5 ∨ n = 6 then m == 0 && okC c0 c1
  else false
def okP (p : P6) : Bool := p.k == 39 && (p.t.toList.isEmpty && fitP p.n p.m p.c0 p.c1)
def errP (p : P6) : Int := if okP p then 0 else 141
/-- a pen applied -/
def app (s : S8) (p : P6) : S8 :=
  if p.n = 0 then z8
  else if p.n = 1 then { s with a := bits .or .i64 s.a p.m }
  else if p.n = 2 then { s with a := bits .andNot .i64 s.a p.m }
  else if p.n = 3 then { s with u := p.m }
  else if p.n = 4 then { s with f0 := p.c0, f1 := p.c1 }
  else if p.n = 5 then { s with b0 := p.c0, b1 := p.c1 }
  else { s with l0 := p.c0, l1 := p.c1 }
/-- the pens of a list in order; none where one of them is not valid -/
def runP : S8 → List P6 → Option S8
  | s, [] => some s
  | s, p :: l => if okP p then runP (app s p) l else none
def runV (s : S8) (l : List P6) : S8 := if errS s = 0 then (runP s l).getD z8 else z8
def runE (s : S8) (l : List P6) : Int := if errS s = 0 then (if (runP s l).isSome then 0 else 141) else errS s
/-- the colors that are seen -/
def seen (s : S8) : Int × Int × Int × Int :=
  let x := if bits .and .i64 s.a 16 != 0 then (s.b0, s.b1, s.f0, s.f1) else (s.f0, s.f1, s.b0, s.b1)
  if bits .and .i64 s.a 32 != 0 then (x.2.2.1, x.2.2.2, x.2.2.1, x.2.2.2) else x
def turn (s : S8) : S8 := { s with a := bits .xor .i64 s.a 16 }
end Go.Proofs.YteepfecplabinaaDoor.Sty
