/-
  Contracts of the program's isValid and Check.
-/
import Derived.Test.YtefkbdmgplfgoaaGreatDoorStaU
import Derived.Test.YtefkbdmgplfgoaaGreatDoorStaAf
import Derived.Test.YtefkbdmgplfgoaaGreatDoorStaAg
import Derived.Test.YtefkbdmgplfgoaaGreatDoorUtfD
import Derived.Deep.RegionHeld3
namespace Go.Proofs.YtefkbdmgplfgoaaGreatDoor.Sta
open Go.RowKit Utf Par

/-- the table of the fields -/
def fld (n : Nat) : Int := if n = 0 then 1 else if n = 2 then 8 else if n = 4 ∨ n = 9 then 6 else if n = 5 ∨ n = 10 then 14 else if n = 6 ∨ n = 7 then 32 else if n = 11 ∨ n = 12 then 62 else 0
def Tf (w : World) : Prop := 0 < w.heap.size ∧ ∀ n : Nat, n < 15 → w.cell? ⟨0, n, none⟩ = some (.int .i64 (fld n))
theorem Tf.below {w w' : World} {B : Nat} (h : Tf w) (hb : Below B w w') (hB : 0 < B) : Tf w' :=
  ⟨Nat.lt_of_lt_of_le h.1 hb.size, fun n hn => (hb.cell (p := ⟨0, n, none⟩) hB).trans (h.2 n hn)⟩
theorem Tf.keep {w w' : World} (h : Tf w) (hb : Below w.heap.size w w') : Tf w' := h.below hb (show 0 < w.heap.size from h.1)
/-- the fields that are filled may be -/
def okF (n : Nat) (a b c d e f : Bool) : Bool :=
  (!a || decide (n = 0)) && (!b || decide (n = 4 ∨ n = 5 ∨ n = 9 ∨ n = 10 ∨ n = 11 ∨ n = 12)) && (!c || decide (n = 4 ∨ n = 5 ∨ n = 9 ∨ n = 10 ∨ n = 11 ∨ n = 12)) &&
  (!d || decide (n = 2 ∨ n = 5 ∨ n = 10 ∨ n = 11 ∨ n = 12)) && (!e || decide (n = 11 ∨ n = 12)) && (!f || decide (n = 6 ∨ n = 7 ∨ n = 11 ∨ n = 12))
theorem okF_is (n : Nat) (hn : n < 15) (a b c d e f : Bool) : (bits .andNot .i64 (filN a b c d e f) (fld n) == 0) = okF n a b c d e f := by
  have : ∀ n : Fin 15, ∀ a b c d e f : Bool, (bits .andNot .i64 (filN a b c d e f) (fld n.val) == 0) = okF n.val a b c d e f := by decide +kernel
  exact this ⟨n, hn⟩ a b c d e f
theorem spo_is (n : Nat) (hn : n < 15) : (bits .andNot .i64 (fld n) 1 != 0) = decide (n = 2 ∨ n = 4 ∨ n = 5 ∨ n = 6 ∨ n = 7 ∨ n = 9 ∨ n = 10 ∨ n = 11 ∨ n = 12) := by
  have : ∀ n : Fin 15, (bits .andNot .i64 (fld n.val) 1 != 0) = decide (n.val = 2 ∨ n.val = 4 ∨ n.val = 5 ∨ n.val = 6 ∨ n.val = 7 ∨ n.val = 9 ∨ n.val = 10 ∨ n.val = 11 ∨ n.val = 12) := by decide +kernel
  exact this ⟨n, hn⟩
def allV (m1 m2 m3 m4 m4' m5 m6 m7 m8 m8' m9 m10 : Bool) : Bool := m1 && (m2 && (m3 && ((m4 || m4') && (m5 && (m6 && (m7 && ((m8 || m8') && (m9 && m10))))))))
def goodB (n : Nat) (p : PS) : Bool :=
  allV (okF n (decide (0 < p.utf.length)) (!decide (p.pr.toNat = 0)) (decide (0 < p.ps.length)) (!sz0 p.it) (!decide (p.fi.toNat = 0)) (!sz0 p.tx))
    (whoB (n : Int) (!sz0 p.it) (!decide (p.pr.toNat = 0)) (decide (0 < p.ps.length)) (!decide (p.fi.toNat = 0)))
    (p.utf.isEmpty || preB p.utf) (decide (p.pr.toNat = 0)) (privB p.pr) (decide (chkV p.ps = 0)) (decide (p.it.size ≤ 2)) (allB signB p.it) (decide (p.fi.toNat = 0)) (finlB p.fi) (decide (p.tx.size ≤ 512)) (allB textB p.tx)
theorem unwanted {b : Bool} (h : b = false) : ¬ (b = true) := by rw [h]; decide
end Go.Proofs.YtefkbdmgplfgoaaGreatDoor.Sta
