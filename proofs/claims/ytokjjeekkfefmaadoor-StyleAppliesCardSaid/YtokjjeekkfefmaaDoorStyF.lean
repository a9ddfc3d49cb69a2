/-
  Boxes of the call's own; the contracts of the seven closures that effects makes.
-/
import Derived.Test.YtokjjeekkfefmaaDoorStyE
import Derived.Lib.SmallJoins
namespace Go.Proofs.YtokjjeekkfefmaaDoor.Sty
open Go.RowKit Utf Col

/-- a block of the call's own with these cells at its head, which may be written -/
def Box (w : World) (B : Nat) (cs : List Value) : Prop := B < w.heap.size ∧ w.rangeAt B 0 cs ∧ w.there B 0 cs.length
theorem Box.cell {w : World} {B : Nat} {cs : List Value} (h : Box w B cs) (j : Nat) (v : Value) (hv : cs[j]? = some v) : w.cell? ⟨B, j, none⟩ = some v := by
  have := h.2.1 j v hv
  rwa [Nat.zero_add] at this
theorem Box.free {w : World} {B : Nat} {cs : List Value} (h : Box w B cs) (j : Nat) (hj : j < cs.length) : w.frozen? ⟨B, j, none⟩ = false := by
  have := (h.2.2 j hj).2
  rwa [Nat.zero_add] at this
theorem Box.at {w w' : World} {B : Nat} {cs : List Value} (h : Box w B cs) (hs : w.heap.size ≤ w'.heap.size) (hb : w'.heap[B]? = w.heap[B]?) : Box w' B cs :=
  ⟨Nat.lt_of_lt_of_le h.1 hs, fun j v hv => (World.cell?_of_block (a := ⟨B, 0 + j, none⟩) hb).trans (h.2.1 j v hv), fun j hj => ⟨by rw [World.cell?_of_block (a := ⟨B, 0 + j, none⟩) hb]; exact (h.2.2 j hj).1, by rw [World.frozen?_of_block (a := ⟨B, 0 + j, none⟩) hb]; exact (h.2.2 j hj).2⟩⟩
theorem Box.keep {w w' : World} {B : Nat} {cs : List Value} (h : Box w B cs) (hb : Below w.heap.size w w') : Box w' B cs := h.at hb.size (hb.block B h.1)
theorem Box.grown {w w' : World} {B : Nat} {cs : List Value} {row : Option Nat} (h : Box w B cs) (hg : w.grownBy w' row) (hne : some B ≠ row) : Box w' B cs := h.at hg.size (hg.block B h.1 hne)
theorem Box.alloc {w : World} {B : Nat} {cs : List Value} (h : Box w B cs) (o : Obj) : Box (w.alloc o) B cs := h.keep (below_box w o)
theorem Box.drew {w : World} {B : Nat} {cs : List Value} (h : Box w B cs) : Box w.drew B cs := h.keep ((Below.refl _ w).drew)
theorem Box.of {w : World} {B : Nat} {cs : Array Value} {t : TypeId} (h : w.heap[B]? = some (.cells cs t (0, 0))) : Box w B cs.toList := by
  have hlt : B < w.heap.size := (Array.getElem?_eq_some_iff.1 h).1
  refine ⟨hlt, fun j v hv => ?_, fun j hj => ⟨?_, ?_⟩⟩
  · rw [Nat.zero_add, Joins.cell_of_block h j]
    simpa using hv
  · rw [Nat.zero_add, Joins.cell_of_block h j]
    simp at hj
    simp [hj]
  · simp [World.frozen?, h]
theorem Box.new (w : World) (cs : Array Value) (t : TypeId) : Box (w.alloc (.cells cs t)) w.heap.size cs.toList := Box.of (heap_alloc_new w _)
theorem Box.set {w : World} {B : Nat} {cs : List Value} (h : Box w B cs) (j : Nat) (v : Value) : Box (w.setCell ⟨B, j, none⟩ v) B (cs.set j v) := by
  refine ⟨by simpa using h.1, fun i u hu => ?_, fun i hi => ⟨?_, ?_⟩⟩
  · rw [Nat.zero_add]
    rw [List.getElem?_set] at hu
    by_cases e : j = i
    · subst e
      rw [if_pos rfl] at hu
      split at hu
      · rename_i hj
        cases hu
        exact World.cell?_setCell_same _ _ _ (h.cell j _ (List.getElem?_eq_getElem hj))
      · cases hu
    · rw [if_neg e] at hu
      rw [World.cell?_setCell_other _ _ _ _ (by intro h; injection h; contradiction)]
      exact h.cell i u hu
  · have := World.isSome_setCells B [v] j w ⟨B, 0 + i, none⟩ ((h.2.2 i (by simpa using hi)).1)
    simpa [World.setCells] using this
  · rw [World.frozen?_setCell]
    exact (h.2.2 i (by simpa using hi)).2
theorem grown_set (w : World) (B j : Nat) (v : Value) : w.grownBy (w.setCell ⟨B, j, none⟩ v) (some B) := by
  refine ⟨rfl, rfl, rfl, by simp, fun k hk hne => ?_⟩
  have e : B ≠ k := fun e => hne (by rw [e])
  simp [World.setCell, Array.getElem?_modify, e]
def cS (s : S8) : List Value := [.int .i64 s.a, .int .i64 s.u, .int .i64 s.f0, .int .i64 s.f1, .int .i64 s.b0, .int .i64 s.b1, .int .i64 s.l0, .int .i64 s.l1]

def EffPost (w : World) (B : Nat) (s : S8) (e : Ending) (w' : World) : Prop := e = .returned (.tuple #[]) ∧ Box w' B (cS s) ∧ w.grownBy w' (some B)
theorem grown_drew {w w' : World} {row : Option Nat} (h : w.grownBy w' row) : w.grownBy w'.drew row := ⟨h.os, h.tape, h.output, h.size, h.block⟩
set_option maxRecDepth 100000 in
set_option maxHeartbeats 1000000 in
theorem eff0 (k n m c0 c1 : Int) (t : ByteArray) (a u f0 f1 b0 b1 l0 l1 : Int) (B q : Nat) (w : World) (hB : Box w B (cS ⟨a, u, f0, f1, b0, b1, l0, l1⟩)) (hq : q < w.heap.size) (hc : w.cell? ⟨q, 0, none⟩ = some (.pointer (some ⟨B, 0, none⟩))) :
    Calls Tryd.prog 37 #[penV k n m c0 c1 t, .pointer (some ⟨q, 0, none⟩)] w (EffPost w B ⟨0, 0, 0, 0, 0, 0, 0, 0⟩) := by
  unfold penV
  have hl := hB.1
  have x0 := hB.cell 0 _ rfl
  have v0 := hB.free 0 (by show 0 < 8; decide)
  have x1 := hB.cell 1 _ rfl
  have v1 := hB.free 1 (by show 1 < 8; decide)
  have x2 := hB.cell 2 _ rfl
  have v2 := hB.free 2 (by show 2 < 8; decide)
  have x3 := hB.cell 3 _ rfl
  have v3 := hB.free 3 (by show 3 < 8; decide)
  have x4 := hB.cell 4 _ rfl
  have v4 := hB.free 4 (by show 4 < 8; decide)
  have x5 := hB.cell 5 _ rfl
  have v5 := hB.free 5 (by show 5 < 8; decide)
  have x6 := hB.cell 6 _ rfl
  have v6 := hB.free 6 (by show 6 < 8; decide)
  have x7 := hB.cell 7 _ rfl
  have v7 := hB.free 7 (by show 7 < 8; decide)
  have HB := Lib.hid hB; clear hB
  go_enter Tryd.func37, Tryd.ntmps37
  go_wp2
  go_end0
  exact ⟨rfl, (((((((((HB.out.set 0 _).set 1 _).set 2 _).set 3 _).set 4 _).set 5 _).set 6 _).set 7 _).alloc _), (((((((((grown_set _ B 0 _).trans (grown_set _ B 1 _)).trans (grown_set _ B 2 _)).trans (grown_set _ B 3 _)).trans (grown_set _ B 4 _)).trans (grown_set _ B 5 _)).trans (grown_set _ B 6 _)).trans (grown_set _ B 7 _)).trans (World.grownBy_alloc _ _ (some B)))⟩
set_option maxRecDepth 100000 in
set_option maxHeartbeats 1000000 in
theorem eff1 (k n m c0 c1 : Int) (t : ByteArray) (a u f0 f1 b0 b1 l0 l1 : Int) (B q : Nat) (w : World) (hB : Box w B (cS ⟨a, u, f0, f1, b0, b1, l0, l1⟩)) (hq : q < w.heap.size) (hc : w.cell? ⟨q, 0, none⟩ = some (.pointer (some ⟨B, 0, none⟩))) :
    Calls Tryd.prog 38 #[penV k n m c0 c1 t, .pointer (some ⟨q, 0, none⟩)] w (EffPost w B ⟨bits .or .i64 a m, u, f0, f1, b0, b1, l0, l1⟩) := by
  unfold penV
  have hl := hB.1
  have x0 := hB.cell 0 _ rfl
  have v0 := hB.free 0 (by show 0 < 8; decide)
  have HB := Lib.hid hB; clear hB
  go_enter Tryd.func38, Tryd.ntmps38
  go_wp2_with fail
  go_region
  go_end0
  exact ⟨rfl, ((HB.out.set 0 _).alloc _).drew, (grown_drew ((grown_set _ B 0 _).trans (World.grownBy_alloc _ _ (some B))))⟩
set_option maxRecDepth 100000 in
set_option maxHeartbeats 1000000 in
theorem eff2 (k n m c0 c1 : Int) (t : ByteArray) (a u f0 f1 b0 b1 l0 l1 : Int) (B q : Nat) (w : World) (hB : Box w B (cS ⟨a, u, f0, f1, b0, b1, l0, l1⟩)) (hq : q < w.heap.size) (hc : w.cell? ⟨q, 0, none⟩ = some (.pointer (some ⟨B, 0, none⟩))) :
    Calls Tryd.prog 39 #[penV k n m c0 c1 t, .pointer (some ⟨q, 0, none⟩)] w (EffPost w B ⟨bits .andNot .i64 a m, u, f0, f1, b0, b1, l0, l1⟩) := by
  unfold penV
  have hl := hB.1
  have x0 := hB.cell 0 _ rfl
  have v0 := hB.free 0 (by show 0 < 8; decide)
  have HB := Lib.hid hB; clear hB
  go_enter Tryd.func39, Tryd.ntmps39
  go_wp2_with fail
  go_region
  go_end0
  exact ⟨rfl, ((HB.out.set 0 _).alloc _).drew, (grown_drew ((grown_set _ B 0 _).trans (World.grownBy_alloc _ _ (some B))))⟩
set_option maxRecDepth 100000 in
set_option maxHeartbeats 1000000 in
theorem eff3 (k n m c0 c1 : Int) (t : ByteArray) (a u f0 f1 b0 b1 l0 l1 : Int) (B q : Nat) (w : World) (hB : Box w B (cS ⟨a, u, f0, f1, b0, b1, l0, l1⟩)) (hq : q < w.heap.size) (hc : w.cell? ⟨q, 0, none⟩ = some (.pointer (some ⟨B, 0, none⟩))) :
    Calls Tryd.prog 40 #[penV k n m c0 c1 t, .pointer (some ⟨q, 0, none⟩)] w (EffPost w B ⟨a, m, f0, f1, b0, b1, l0, l1⟩) := by
  unfold penV
  have hl := hB.1
  have x1 := hB.cell 1 _ rfl
  have v1 := hB.free 1 (by show 1 < 8; decide)
  have HB := Lib.hid hB; clear hB
  go_enter Tryd.func40, Tryd.ntmps40
  go_wp2
  go_end0
  exact ⟨rfl, ((HB.out.set 1 _).alloc _), ((grown_set _ B 1 _).trans (World.grownBy_alloc _ _ (some B)))⟩
set_option maxRecDepth 100000 in
set_option maxHeartbeats 1000000 in
theorem eff4 (k n m c0 c1 : Int) (t : ByteArray) (a u f0 f1 b0 b1 l0 l1 : Int) (B q : Nat) (w : World) (hB : Box w B (cS ⟨a, u, f0, f1, b0, b1, l0, l1⟩)) (hq : q < w.heap.size) (hc : w.cell? ⟨q, 0, none⟩ = some (.pointer (some ⟨B, 0, none⟩))) :
    Calls Tryd.prog 41 #[penV k n m c0 c1 t, .pointer (some ⟨q, 0, none⟩)] w (EffPost w B ⟨a, u, c0, c1, b0, b1, l0, l1⟩) := by
  unfold penV
  have hl := hB.1
  have x2 := hB.cell 2 _ rfl
  have v2 := hB.free 2 (by show 2 < 8; decide)
  have x3 := hB.cell 3 _ rfl
  have v3 := hB.free 3 (by show 3 < 8; decide)
  have HB := Lib.hid hB; clear hB
  go_enter Tryd.func41, Tryd.ntmps41
  go_wp2
  go_end0
  exact ⟨rfl, (((HB.out.set 2 _).set 3 _).alloc _), (((grown_set _ B 2 _).trans (grown_set _ B 3 _)).trans (World.grownBy_alloc _ _ (some B)))⟩
set_option maxRecDepth 100000 in
set_option maxHeartbeats 1000000 in
theorem eff5 (k n m c0 c1 : Int) (t : ByteArray) (a u f0 f1 b0 b1 l0 l1 : Int) (B q : Nat) (w : World) (hB : Box w B (cS ⟨a, u, f0, f1, b0, b1, l0, l1⟩)) (hq : q < w.heap.size) (hc : w.cell? ⟨q, 0, none⟩ = some (.pointer (some ⟨B, 0, none⟩))) :
    Calls Tryd.prog 42 #[penV k n m c0 c1 t, .pointer (some ⟨q, 0, none⟩)] w (EffPost w B ⟨a, u, f0, f1, c0, c1, l0, l1⟩) := by
  unfold penV
  have hl := hB.1
  have x4 := hB.cell 4 _ rfl
  have v4 := hB.free 4 (by show 4 < 8; decide)
  have x5 := hB.cell 5 _ rfl
  have v5 := hB.free 5 (by show 5 < 8; decide)
  have HB := Lib.hid hB; clear hB
  go_enter Tryd.func42, Tryd.ntmps42
  go_wp2
  go_end0
  exact ⟨rfl, (((HB.out.set 4 _).set 5 _).alloc _), (((grown_set _ B 4 _).trans (grown_set _ B 5 _)).trans (World.grownBy_alloc _ _ (some B)))⟩
set_option maxRecDepth 100000 in
set_option maxHeartbeats 1000000 in
theorem eff6 (k n m c0 c1 : Int) (t : ByteArray) (a u f0 f1 b0 b1 l0 l1 : Int) (B q : Nat) (w : World) (hB : Box w B (cS ⟨a, u, f0, f1, b0, b1, l0, l1⟩)) (hq : q < w.heap.size) (hc : w.cell? ⟨q, 0, none⟩ = some (.pointer (some ⟨B, 0, none⟩))) :
    Calls Tryd.prog 43 #[penV k n m c0 c1 t, .pointer (some ⟨q, 0, none⟩)] w (EffPost w B ⟨a, u, f0, f1, b0, b1, c0, c1⟩) := by
  unfold penV
  have hl := hB.1
  have x6 := hB.cell 6 _ rfl
  have v6 := hB.free 6 (by show 6 < 8; decide)
  have x7 := hB.cell 7 _ rfl
  have v7 := hB.free 7 (by show 7 < 8; decide)
  have HB := Lib.hid hB; clear hB
  go_enter Tryd.func43, Tryd.ntmps43
  go_wp2
  go_end0
  exact ⟨rfl, (((HB.out.set 6 _).set 7 _).alloc _), (((grown_set _ B 6 _).trans (grown_set _ B 7 _)).trans (World.grownBy_alloc _ _ (some B)))⟩
end Go.Proofs.YtokjjeekkfefmaaDoor.Sty
