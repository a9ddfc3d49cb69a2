/-
  Contract of the reference's told.
-/
import Derived.Test.YtefkbdmgplfgoaaDoorStaC
import Derived.Deep.RegionHeld3
namespace Go.Proofs.YtefkbdmgplfgoaaDoor.Sta
open Go.RowKit Utf Par

theorem below_set8 {B : Nat} {a w : World} (b : Nat) (x0 x1 x2 x3 x4 x5 x6 x7 : Value) (h : Below B a w) (hb : B ≤ b) : Below B a ((((((((w.setCell ⟨b, 0, none⟩ x0).setCell ⟨b, 1, none⟩ x1).setCell ⟨b, 2, none⟩ x2).setCell ⟨b, 3, none⟩ x3).setCell ⟨b, 4, none⟩ x4).setCell ⟨b, 5, none⟩ x5).setCell ⟨b, 6, none⟩ x6).setCell ⟨b, 7, none⟩ x7) :=
  ((((((((h.setCell (p := ⟨b, 0, none⟩) hb _).setCell (p := ⟨b, 1, none⟩) hb _).setCell (p := ⟨b, 2, none⟩) hb _).setCell (p := ⟨b, 3, none⟩) hb _).setCell (p := ⟨b, 4, none⟩) hb _).setCell (p := ⟨b, 5, none⟩) hb _).setCell (p := ⟨b, 6, none⟩) hb _).setCell (p := ⟨b, 7, none⟩) hb _)
theorem below_set8a {B : Nat} {a w : World} (b : Nat) (x0 x1 x2 x3 x4 x5 x6 x7 : Value) (o : Obj) (h : Below B a w) (hb : B ≤ b) (ha : B ≤ a.heap.size) : Below B a (((((((((w.setCell ⟨b, 0, none⟩ x0).setCell ⟨b, 1, none⟩ x1).setCell ⟨b, 2, none⟩ x2).setCell ⟨b, 3, none⟩ x3).setCell ⟨b, 4, none⟩ x4).setCell ⟨b, 5, none⟩ x5).setCell ⟨b, 6, none⟩ x6).setCell ⟨b, 7, none⟩ x7).alloc o) :=
  (below_set8 b x0 x1 x2 x3 x4 x5 x6 x7 h hb).alloc (Nat.le_trans ha (below_set8 b x0 x1 x2 x3 x4 x5 x6 x7 h hb).size) o
theorem box_set8 {w : World} {b : Nat} {y0 y1 y2 y3 y4 y5 y6 y7 : Value} (x0 x1 x2 x3 x4 x5 x6 x7 : Value) (h : Box w b [y0, y1, y2, y3, y4, y5, y6, y7]) : Box ((((((((w.setCell ⟨b, 0, none⟩ x0).setCell ⟨b, 1, none⟩ x1).setCell ⟨b, 2, none⟩ x2).setCell ⟨b, 3, none⟩ x3).setCell ⟨b, 4, none⟩ x4).setCell ⟨b, 5, none⟩ x5).setCell ⟨b, 6, none⟩ x6).setCell ⟨b, 7, none⟩ x7) b [x0, x1, x2, x3, x4, x5, x6, x7] :=
  (((((((h.set 0 x0).set 1 x1).set 2 x2).set 3 x3).set 4 x4).set 5 x5).set 6 x6).set 7 x7
theorem grown_set8 (w : World) (b : Nat) (x0 x1 x2 x3 x4 x5 x6 x7 : Value) : w.grownBy ((((((((w.setCell ⟨b, 0, none⟩ x0).setCell ⟨b, 1, none⟩ x1).setCell ⟨b, 2, none⟩ x2).setCell ⟨b, 3, none⟩ x3).setCell ⟨b, 4, none⟩ x4).setCell ⟨b, 5, none⟩ x5).setCell ⟨b, 6, none⟩ x6).setCell ⟨b, 7, none⟩ x7) (some b) :=
  (((((((grown_set w b 0 x0).trans (grown_set _ b 1 x1)).trans (grown_set _ b 2 x2)).trans (grown_set _ b 3 x3)).trans (grown_set _ b 4 x4)).trans (grown_set _ b 5 x5)).trans (grown_set _ b 6 x6)).trans (grown_set _ b 7 x7)
theorem size_set8 (w : World) (b : Nat) (x0 x1 x2 x3 x4 x5 x6 x7 : Value) : ((((((((w.setCell ⟨b, 0, none⟩ x0).setCell ⟨b, 1, none⟩ x1).setCell ⟨b, 2, none⟩ x2).setCell ⟨b, 3, none⟩ x3).setCell ⟨b, 4, none⟩ x4).setCell ⟨b, 5, none⟩ x5).setCell ⟨b, 6, none⟩ x6).setCell ⟨b, 7, none⟩ x7).heap.size = w.heap.size := by simp
theorem RdE.grown {w w' : World} {b R : Nat} {xs : List EQ} (h : RdE w (some ⟨b, 0, none⟩) xs) (hg : w.grownBy w' (some R)) (hne : b ≠ R) : RdE w' (some ⟨b, 0, none⟩) xs := fun j p hp => by
  obtain ⟨b', o, hA, hlt, hr⟩ := h j p hp
  cases hA
  exact ⟨b, 0, rfl, Nat.lt_of_lt_of_le hlt hg.size, fun i v hv => (World.cell?_of_block (a := ⟨b, 0 + j * 7 + i, none⟩) (hg.block b hlt (by simpa using hne))).trans (hr i v hv)⟩
theorem RV.mk1 {W : World} {b : Nat} {e : EV} {A : Option Addr} {n c : Nat} (h : RdE W (some ⟨b, 0, none⟩) [⟨e, A, n, c⟩]) (hq : RL W (.slice A n c) e.ps) : RV W (.slice (some ⟨b, 0, none⟩) 1 1) [e] :=
  ⟨_, 1, [⟨e, A, n, c⟩], rfl, Nat.le_refl _, by decide, rfl, h, fun x hx => by
    obtain rfl : x = ⟨e, A, n, c⟩ := by simpa using hx
    exact hq⟩
theorem RdE.at {w' W : World} {b : Nat} {xs : List EQ} (h : RdE w' (some ⟨b, 0, none⟩) xs) (hl : b < w'.heap.size) (hb : W.heap[b]? = w'.heap[b]?) : RdE W (some ⟨b, 0, none⟩) xs := fun j p hp => by
  obtain ⟨b', o, hA, _, hr⟩ := h j p hp
  cases hA
  have hlt : b < W.heap.size := by
    have : (W.heap[b]?).isSome := by rw [hb]; simp [hl]
    simpa using this
  exact ⟨b, 0, rfl, hlt, fun i v hv => (World.cell?_of_block (a := ⟨b, 0 + j * 7 + i, none⟩) hb).trans (hr i v hv)⟩
/-- what told hands back: the initial state, and events -/
def Told (l : List EV) (w0 w : World) (e : Ending) (w' : World) : Prop := ∃ v, e = .returned (.tuple #[.agg #[.int .i64 0, .slice none 0 0, .int .u8 0, .int .u8 0, .slice none 0 0, .string ⟨#[]⟩, .string ⟨#[]⟩, .bool false], v]) ∧ (∀ W, Agr w0 w w' W → RV W v l) ∧ Below w.heap.size w w'
theorem tolS_fst (p : PS) (e : EV) : (tolS p e).1 = begS 0 := by unfold tolS; split <;> rfl
end Go.Proofs.YtefkbdmgplfgoaaDoor.Sta
