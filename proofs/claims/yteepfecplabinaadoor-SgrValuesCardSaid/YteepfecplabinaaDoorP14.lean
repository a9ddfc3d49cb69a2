/-
  StyF StyG StyH StyI StyJ
-/
import Derived.Lib.SmallJoins
import Derived.Test.YteepfecplabinaaDoorP13
namespace Go.Proofs.YteepfecplabinaaDoor.Sty
open Go.RowKit Utf Col

/-- a block of the call's own with these cells at its head, which may be written -/
def Box (w : World) (B : Nat) (cs : List Value) : Prop := B < w.heap.size ∧ w.rangeAt B 0 cs ∧ w.there B 0 cs.length
theorem Box.cell {w : World} {B : Nat} {cs : List Value} (h : Box w B cs) (j : Nat) (v : Value) (hv : cs[j]? = some v) : w.cell? ⟨B, j, none⟩ = some v := by
  have := h.2.1 j v hv
  rwa [Nat.zero_add] at this
theorem Box.free {w : World} {B : Nat} {cs : List Value} (h : Box w B cs) (j : Nat) (hj : j < cs.length) : w.frozen? ⟨B, j, none⟩ = false := by
  have := (h.2.2 j hj).2
  rwa [Nat.zero_add] at this
theorem Box.at {w w' : World} {B : Nat} {cs : List Value} (h : Box w B cs) (hs : w.heap.size ≤ w'.heap.size) (hb : w'.heap[B]? = w.heap[B]?) : Box w' B cs :=
  ⟨Nat.lt_of_lt_of_le h.1 hs, fun j v hv => (World.cell?_of_block (a := ⟨B, 0 + j, none⟩) hb).trans (h.2.1 j v hv), fun j hj => ⟨by rw [World.cell?_of_block (a := ⟨B, 0 + j, none⟩) hb]; exact (h.2.2 j hj).1, by rw [World.frozen?_of_block (a := ⟨B, 0 + j, none⟩) hb]; exact (h.2.2 j hj).2⟩⟩
theorem Box.keep {w w' : World} {B : Nat} {cs : List Value} (h : Box w B cs) (hb : Below w.heap.size w w') : Box w' B cs := h.at hb.size (hb.block B h.1)
theorem Box.grown {w w' : World} {B : Nat} {cs : List Value} {row : Option Nat} (h : Box w B cs) (hg : w.grownBy w' row) (hne : some B ≠ row) : Box w' B cs := h.at hg.size (hg.block B h.1 hne)
theorem Box.alloc {w : World} {B : Nat} {cs : List Value} (h : Box w B cs) (o : Obj) : Box (w.alloc o) B cs := h.keep (below_box w o)
theorem Box.drew {w : World} {B : Nat} {cs : List Value} (h : Box w B cs) : Box w.drew B cs := h.keep ((Below.refl _ w).drew)
theorem Box.of {w : World} {B : Nat} {cs : Array Value} {t : TypeId} (h : w.heap[B]? = some (.cells cs t (0, 0))) : Box w B cs.toList := by
  have hlt : B < w.heap.size := (Array.getElem?_eq_some_iff.1 h).1
  refine ⟨hlt, fun j v hv => ?_, fun j hj => ⟨?_, ?_⟩⟩
  · rw [Nat.zero_add, Joins.cell_of_block h j]
    simpa using hv
  · rw [Nat.zero_add, Joins.cell_of_block h j]
    simp at hj
    simp [hj]
  · simp [World.frozen?, h]
theorem Box.new (w : World) (cs : Array Value) (t : TypeId) : Box (w.alloc (.cells cs t)) w.heap.size cs.toList := Box.of (heap_alloc_new w _)
theorem Box.set {w : World} {B : Nat} {cs : List Value} (h : Box w B cs) (j : Nat) (v : Value) : Box (w.setCell ⟨B, j, none⟩ v) B (cs.set j v) := by
  refine ⟨by simpa using h.1, fun i u hu => ?_, fun i hi => ⟨?_, ?_⟩⟩
  · rw [Nat.zero_add]
    rw [List.getElem?_set] at hu
    by_cases e : j = i
    · subst e
      rw [if_pos rfl] at hu
      split at hu
      · rename_i hj
        cases hu
        exact World.cell?_setCell_same _ _ _ (h.cell j _ (List.getElem?_eq_getElem hj))
      · cases hu
    · rw [if_neg e] at hu
      rw [World.cell?_setCell_other _ _ _ _ (by intro h; injection h; contradiction)]
      exact h.cell i u hu
  · have := World.isSome_setCells B [v] j w ⟨B, 0 + i, none⟩ ((h.2.2 i (by simpa using hi)).1)
    simpa [World.setCells] using this
  · rw [World.frozen?_setCell]
    exact (h.2.2 i (by simpa using hi)).2
theorem grown_set (w : World) (B j : Nat) (v : Value) : w.grownBy (w.setCell ⟨B, j, none⟩ v) (some B) := by
  refine ⟨rfl, rfl, rfl, by simp, fun k hk hne => ?_⟩
  have e : B ≠ k := fun e => hne (by rw [e])
  simp [World.setCell, Array.getElem?_modify, e]
def cS (s : S8) : List Value := [.int .i64 s.a, .int .i64 s.u, .int .i64 s.f0, .int .i64 s.f1, .int .i64 s.b0, .int .i64 s.b1, .int .i64 s.l0, .int .i64 s.l1]

def EffPost (w : World) (B : Nat) (s : S8) (e : Ending) (w' : World) : Prop := e = .returned (.tuple #[]) ∧ Box w' B (cS s) ∧ w.grownBy w' (some B)
theorem grown_drew {w w' : World} {row : Option Nat} (h : w.grownBy w' row) : w.grownBy w'.drew row := ⟨h.os, h.tape, h.output, h.size, h.block⟩
set_option maxRecDepth 100000 in
set_option maxHeartbeats 1000000 in
theorem eff0 (k n m c0 c1 : Int) (t : ByteArray) (a u f0 f1 b0 b1 l0 l1 : Int) (B q : Nat) (w : World) (hB : Box w B (cS ⟨a, u, f0, f1, b0, b1, l0, l1⟩)) (hq : q < w.heap.size) (hc : w.cell? ⟨q, 0, none⟩ = some (.pointer (some ⟨B, 0, none⟩))) :
    Calls Tryd.prog 81 #[penV k n m c0 c1 t, .pointer (some ⟨q, 0, none⟩)] w (EffPost w B ⟨0, 0, 0, 0, 0, 0, 0, 0⟩) := by
  unfold penV
  have hl := hB.1
  have x0 := hB.cell 0 _ rfl
  have v0 := hB.free 0 (by show 0 < 8; decide)
  have x1 := hB.cell 1 _ rfl
  have v1 := hB.free 1 (by show 1 < 8; decide)
  have x2 := hB.cell 2 _ rfl
  have v2 := hB.free 2 (by show 2 < 8; decide)
  have x3 := hB.cell 3 _ rfl
  have v3 := hB.free 3 (by show 3 < 8; decide)
  have x4 := hB.cell 4 _ rfl
  have v4 := hB.free 4 (by show 4 < 8; decide)
  have x5 := hB.cell 5 _ rfl
  have v5 := hB.free 5 (by show 5 < 8; decide)
  have x6 := hB.cell 6 _ rfl
  have v6 := hB.free 6 (by show 6 < 8; decide)
  have x7 := hB.cell 7 _ rfl
  have v7 := hB.free 7 (by show 7 < 8; decide)
  have HB := Lib.hid hB; clear hB
  go_enter Tryd.func81, Tryd.ntmps81
  go_wp2
  go_end0
  exact ⟨rfl, (((((((((HB.out.set 0 _).set 1 _).set 2 _).set 3 _).set 4 _).set 5 _).set 6 _).set 7 _).alloc _), (((((((((grown_set _ B 0 _).trans (grown_set _ B 1 _)).trans (grown_set _ B 2 _)).trans (grown_set _ B 3 _)).trans (grown_set _ B 4 _)).trans (grown_set _ B 5 _)).trans (grown_set _ B 6 _)).trans (grown_set _ B 7 _)).trans (World.grownBy_alloc _ _ (some B)))⟩
set_option maxRecDepth 100000 in
set_option maxHeartbeats 1000000 in
theorem eff1 (k n m c0 c1 : Int) (t : ByteArray) (a u f0 f1 b0 b1 l0 l1 : Int) (B q : Nat) (w : World) (hB : Box w B (cS ⟨a, u, f0, f1, b0, b1, l0, l1⟩)) (hq : q < w.heap.size) (hc : w.cell? ⟨q, 0, none⟩ = some (.pointer (some ⟨B, 0, none⟩))) :
    Calls Tryd.prog 82 #[penV k n m c0 c1 t, .pointer (some ⟨q, 0, none⟩)] w (EffPost w B ⟨bits .or .i64 a m, u, f0, f1, b0, b1, l0, l1⟩) := by
  unfold penV
  have hl := hB.1
  have x0 := hB.cell 0 _ rfl
  have v0 := hB.free 0 (by show 0 < 8; decide)
  have HB := Lib.hid hB; clear hB
  go_enter Tryd.func82, Tryd.ntmps82
  go_wp2_with fail
  go_region
  go_end0
  exact ⟨rfl, ((HB.out.set 0 _).alloc _).drew, (grown_drew ((grown_set _ B 0 _).trans (World.grownBy_alloc _ _ (some B))))⟩
set_option maxRecDepth 100000 in
set_option maxHeartbeats 1000000 in
theorem eff2 (k n m c0 c1 : Int) (t : ByteArray) (a u f0 f1 b0 b1 l0 l1 : Int) (B q : Nat) (w : World) (hB : Box w B (cS ⟨a, u, f0, f1, b0, b1, l0, l1⟩)) (hq : q < w.heap.size) (hc : w.cell? ⟨q, 0, none⟩ = some (.pointer (some ⟨B, 0, none⟩))) :
    Calls Tryd.prog 83 #[penV k n m c0 c1 t, .pointer (some ⟨q, 0, none⟩)] w (EffPost w B ⟨bits .andNot .i64 a m, u, f0, f1, b0, b1, l0, l1⟩) := by
  unfold penV
  have hl := hB.1
  have x0 := hB.cell 0 _ rfl
  have v0 := hB.free 0 (by show 0 < 8; decide)
  have HB := Lib.hid hB; clear hB
  go_enter Tryd.func83, Tryd.ntmps83
  go_wp2_with fail
  go_region
  go_end0
  exact ⟨rfl, ((HB.out.set 0 _).alloc _).drew, (grown_drew ((grown_set _ B 0 _).trans (World.grownBy_alloc _ _ (some B))))⟩
set_option maxRecDepth 100000 in
set_option maxHeartbeats 1000000 in
theorem eff3 (k n m c0 c1 : Int) (t : ByteArray) (a u f0 f1 b0 b1 l0 l1 : Int) (B q : Nat) (w : World) (hB : Box w B (cS ⟨a, u, f0, f1, b0, b1, l0, l1⟩)) (hq : q < w.heap.size) (hc : w.cell? ⟨q, 0, none⟩ = some (.pointer (some ⟨B, 0, none⟩))) :
    Calls Tryd.prog 84 #[penV k n m c0 c1 t, .pointer (some ⟨q, 0, none⟩)] w (EffPost w B ⟨a, m, f0, f1, b0, b1, l0, l1⟩) := by
  unfold penV
  have hl := hB.1
  have x1 := hB.cell 1 _ rfl
  have v1 := hB.free 1 (by show 1 < 8; decide)
  have HB := Lib.hid hB; clear hB
  go_enter Tryd.func84, Tryd.ntmps84
  go_wp2
  go_end0
  exact ⟨rfl, ((HB.out.set 1 _).alloc _), ((grown_set _ B 1 _).trans (World.grownBy_alloc _ _ (some B)))⟩
set_option maxRecDepth 100000 in
set_option maxHeartbeats 1000000 in
theorem eff4 (k n m c0 c1 : Int) (t : ByteArray) (a u f0 f1 b0 b1 l0 l1 : Int) (B q : Nat) (w : World) (hB : Box w B (cS ⟨a, u, f0, f1, b0, b1, l0, l1⟩)) (hq : q < w.heap.size) (hc : w.cell? ⟨q, 0, none⟩ = some (.pointer (some ⟨B, 0, none⟩))) :
    Calls Tryd.prog 85 #[penV k n m c0 c1 t, .pointer (some ⟨q, 0, none⟩)] w (EffPost w B ⟨a, u, c0, c1, b0, b1, l0, l1⟩) := by
  unfold penV
  have hl := hB.1
  have x2 := hB.cell 2 _ rfl
  have v2 := hB.free 2 (by show 2 < 8; decide)
  have x3 := hB.cell 3 _ rfl
  have v3 := hB.free 3 (by show 3 < 8; decide)
  have HB := Lib.hid hB; clear hB
  go_enter Tryd.func85, Tryd.ntmps85
  go_wp2
  go_end0
  exact ⟨rfl, (((HB.out.set 2 _).set 3 _).alloc _), (((grown_set _ B 2 _).trans (grown_set _ B 3 _)).trans (World.grownBy_alloc _ _ (some B)))⟩
set_option maxRecDepth 100000 in
set_option maxHeartbeats 1000000 in
theorem eff5 (k n m c0 c1 : Int) (t : ByteArray) (a u f0 f1 b0 b1 l0 l1 : Int) (B q : Nat) (w : World) (hB : Box w B (cS ⟨a, u, f0, f1, b0, b1, l0, l1⟩)) (hq : q < w.heap.size) (hc : w.cell? ⟨q, 0, none⟩ = some (.pointer (some ⟨B, 0, none⟩))) :
    Calls Tryd.prog 86 #[penV k n m c0 c1 t, .pointer (some ⟨q, 0, none⟩)] w (EffPost w B ⟨a, u, f0, f1, c0, c1, l0, l1⟩) := by
  unfold penV
  have hl := hB.1
  have x4 := hB.cell 4 _ rfl
  have v4 := hB.free 4 (by show 4 < 8; decide)
  have x5 := hB.cell 5 _ rfl
  have v5 := hB.free 5 (by show 5 < 8; decide)
  have HB := Lib.hid hB; clear hB
  go_enter Tryd.func86, Tryd.ntmps86
  go_wp2
  go_end0
  exact ⟨rfl, (((HB.out.set 4 _).set 5 _).alloc _), (((grown_set _ B 4 _).trans (grown_set _ B 5 _)).trans (World.grownBy_alloc _ _ (some B)))⟩
set_option maxRecDepth 100000 in
set_option maxHeartbeats 1000000 in
theorem eff6 (k n m c0 c1 : Int) (t : ByteArray) (a u f0 f1 b0 b1 l0 l1 : Int) (B q : Nat) (w : World) (hB : Box w B (cS ⟨a, u, f0, f1, b0, b1, l0, l1⟩)) (hq : q < w.heap.size) (hc : w.cell? ⟨q, 0, none⟩ = some (.pointer (some ⟨B, 0, none⟩))) :
    Calls Tryd.prog 87 #[penV k n m c0 c1 t, .pointer (some ⟨q, 0, none⟩)] w (EffPost w B ⟨a, u, f0, f1, b0, b1, c0, c1⟩) := by
  unfold penV
  have hl := hB.1
  have x6 := hB.cell 6 _ rfl
  have v6 := hB.free 6 (by show 6 < 8; decide)
  have x7 := hB.cell 7 _ rfl
  have v7 := hB.free 7 (by show 7 < 8; decide)
  have HB := Lib.hid hB; clear hB
  go_enter Tryd.func87, Tryd.ntmps87
  go_wp2
  go_end0
  exact ⟨rfl, (((HB.out.set 6 _).set 7 _).alloc _), (((grown_set _ B 6 _).trans (grown_set _ B 7 _)).trans (World.grownBy_alloc _ _ (some B)))⟩
end Go.Proofs.YteepfecplabinaaDoor.Sty

namespace Go.Proofs.YteepfecplabinaaDoor.Sty
open Go.RowKit Utf Col
def cP (p : P6) : List Value := [.int .i64 p.k, .int .i64 p.n, .int .i64 p.m, .int .i64 p.c0, .int .i64 p.c1, .string p.t]
/-- the actions of a slice lie in memory -/
def RdP (w : World) (A : Option Addr) (ps : List P6) : Prop := ∀ j p, ps[j]? = some p → ∃ b o, A = some ⟨b, o, none⟩ ∧ b < w.heap.size ∧ w.rangeAt b (o + j * 6) (cP p)
theorem RdP.keep {w w' : World} {A : Option Addr} {ps : List P6} (h : RdP w A ps) (hb : Below w.heap.size w w') : RdP w' A ps := fun j p hp => by
  obtain ⟨b, o, hA, hlt, hr⟩ := h j p hp
  exact ⟨b, o, hA, Nat.lt_of_lt_of_le hlt hb.size, fun i v hv => (hb.cell (p := ⟨b, o + j * 6 + i, none⟩) hlt).trans (hr i v hv)⟩
set_option maxRecDepth 100000 in
theorem ix_run (b o n c k : Nat) (h : k < n) (w : World) : (Instr.indexAt 31 (.slice (some ⟨b, o, none⟩) n c) (.int .i64 (k : Int))).run Tryd.prog w = .ok (.pointer (some ⟨b, o + k * 6, none⟩)) w := by
  have h1 : (k : Int) < (n : Int) := by omega
  rw [run_indexAt_slice w 31 _ _ _ _ _ Tryd.underlying31]
  go_simp
theorem look0 (q : Addr) (b : Nat) (w : World) (h : w.heap[b]? = some (.map (ent q) 7)) : (Instr.lookup 95 (.map (some b)) (.int .i64 0) false).run Tryd.prog w = .ok (.func (.func 81) #[] #[.pointer (some q)]) w := by
  have hk : Instr.findNow (.int .i64) (.int .i64 0) (ent q).toList 0 = some (some (0, .func (.func 81) #[] #[.pointer (some q)])) := rfl
  have hc : ∀ x, (Instr.checkKey false 10000 3 (.int .i64 0)).run Tryd.prog x = .ok () x := fun x => MapKept.run_checkKey (k := .int .i64 0) Tryd.underlying3 (by simp [MapKept.IsKey]) false 9999
  have he : (ent q).isEmpty = false := rfl
  simp [Instr.lookup, run_underlying Tryd.underlying95, MapKept.run_getObj_map h, he, hc, MapKept.run_findKey Tryd.underlying3 hk, Result.andThen]
theorem look1 (q : Addr) (b : Nat) (w : World) (h : w.heap[b]? = some (.map (ent q) 7)) : (Instr.lookup 95 (.map (some b)) (.int .i64 1) false).run Tryd.prog w = .ok (.func (.func 82) #[] #[.pointer (some q)]) w := by
  have hk : Instr.findNow (.int .i64) (.int .i64 1) (ent q).toList 0 = some (some (1, .func (.func 82) #[] #[.pointer (some q)])) := rfl
  have hc : ∀ x, (Instr.checkKey false 10000 3 (.int .i64 1)).run Tryd.prog x = .ok () x := fun x => MapKept.run_checkKey (k := .int .i64 1) Tryd.underlying3 (by simp [MapKept.IsKey]) false 9999
  have he : (ent q).isEmpty = false := rfl
  simp [Instr.lookup, run_underlying Tryd.underlying95, MapKept.run_getObj_map h, he, hc, MapKept.run_findKey Tryd.underlying3 hk, Result.andThen]
theorem look2 (q : Addr) (b : Nat) (w : World) (h : w.heap[b]? = some (.map (ent q) 7)) : (Instr.lookup 95 (.map (some b)) (.int .i64 2) false).run Tryd.prog w = .ok (.func (.func 83) #[] #[.pointer (some q)]) w := by
  have hk : Instr.findNow (.int .i64) (.int .i64 2) (ent q).toList 0 = some (some (2, .func (.func 83) #[] #[.pointer (some q)])) := rfl
  have hc : ∀ x, (Instr.checkKey false 10000 3 (.int .i64 2)).run Tryd.prog x = .ok () x := fun x => MapKept.run_checkKey (k := .int .i64 2) Tryd.underlying3 (by simp [MapKept.IsKey]) false 9999
  have he : (ent q).isEmpty = false := rfl
  simp [Instr.lookup, run_underlying Tryd.underlying95, MapKept.run_getObj_map h, he, hc, MapKept.run_findKey Tryd.underlying3 hk, Result.andThen]
theorem look3 (q : Addr) (b : Nat) (w : World) (h : w.heap[b]? = some (.map (ent q) 7)) : (Instr.lookup 95 (.map (some b)) (.int .i64 3) false).run Tryd.prog w = .ok (.func (.func 84) #[] #[.pointer (some q)]) w := by
  have hk : Instr.findNow (.int .i64) (.int .i64 3) (ent q).toList 0 = some (some (3, .func (.func 84) #[] #[.pointer (some q)])) := rfl
  have hc : ∀ x, (Instr.checkKey false 10000 3 (.int .i64 3)).run Tryd.prog x = .ok () x := fun x => MapKept.run_checkKey (k := .int .i64 3) Tryd.underlying3 (by simp [MapKept.IsKey]) false 9999
  have he : (ent q).isEmpty = false := rfl
  simp [Instr.lookup, run_underlying Tryd.underlying95, MapKept.run_getObj_map h, he, hc, MapKept.run_findKey Tryd.underlying3 hk, Result.andThen]
theorem look4 (q : Addr) (b : Nat) (w : World) (h : w.heap[b]? = some (.map (ent q) 7)) : (Instr.lookup 95 (.map (some b)) (.int .i64 4) false).run Tryd.prog w = .ok (.func (.func 85) #[] #[.pointer (some q)]) w := by
  have hk : Instr.findNow (.int .i64) (.int .i64 4) (ent q).toList 0 = some (some (4, .func (.func 85) #[] #[.pointer (some q)])) := rfl
  have hc : ∀ x, (Instr.checkKey false 10000 3 (.int .i64 4)).run Tryd.prog x = .ok () x := fun x => MapKept.run_checkKey (k := .int .i64 4) Tryd.underlying3 (by simp [MapKept.IsKey]) false 9999
  have he : (ent q).isEmpty = false := rfl
  simp [Instr.lookup, run_underlying Tryd.underlying95, MapKept.run_getObj_map h, he, hc, MapKept.run_findKey Tryd.underlying3 hk, Result.andThen]
theorem look5 (q : Addr) (b : Nat) (w : World) (h : w.heap[b]? = some (.map (ent q) 7)) : (Instr.lookup 95 (.map (some b)) (.int .i64 5) false).run Tryd.prog w = .ok (.func (.func 86) #[] #[.pointer (some q)]) w := by
  have hk : Instr.findNow (.int .i64) (.int .i64 5) (ent q).toList 0 = some (some (5, .func (.func 86) #[] #[.pointer (some q)])) := rfl
  have hc : ∀ x, (Instr.checkKey false 10000 3 (.int .i64 5)).run Tryd.prog x = .ok () x := fun x => MapKept.run_checkKey (k := .int .i64 5) Tryd.underlying3 (by simp [MapKept.IsKey]) false 9999
  have he : (ent q).isEmpty = false := rfl
  simp [Instr.lookup, run_underlying Tryd.underlying95, MapKept.run_getObj_map h, he, hc, MapKept.run_findKey Tryd.underlying3 hk, Result.andThen]
theorem look6 (q : Addr) (b : Nat) (w : World) (h : w.heap[b]? = some (.map (ent q) 7)) : (Instr.lookup 95 (.map (some b)) (.int .i64 6) false).run Tryd.prog w = .ok (.func (.func 87) #[] #[.pointer (some q)]) w := by
  have hk : Instr.findNow (.int .i64) (.int .i64 6) (ent q).toList 0 = some (some (6, .func (.func 87) #[] #[.pointer (some q)])) := rfl
  have hc : ∀ x, (Instr.checkKey false 10000 3 (.int .i64 6)).run Tryd.prog x = .ok () x := fun x => MapKept.run_checkKey (k := .int .i64 6) Tryd.underlying3 (by simp [MapKept.IsKey]) false 9999
  have he : (ent q).isEmpty = false := rfl
  simp [Instr.lookup, run_underlying Tryd.underlying95, MapKept.run_getObj_map h, he, hc, MapKept.run_findKey Tryd.underlying3 hk, Result.andThen]
theorem load_pen (w : World) (b o : Nat) (p : P6) (h : w.rangeAt b o (cP p)) : (Instr.loadAt 48 (.pointer (some ⟨b, o, none⟩))).run Tryd.prog w = .ok (.agg #[.int .i64 p.k, .int .i64 p.n, .int .i64 p.m, .int .i64 p.c0, .int .i64 p.c1, .string p.t]) w :=
  (run_loadAt_mid w b o 48 (cP p) _ h Tryd.underlying48 rfl (by kernel_rfl)).trans rfl
theorem load_sty (w : World) (b : Nat) (s : S8) (h : Box w b (cS s)) : (loadVar 68 ⟨b, 0, none⟩).run Tryd.prog w = .ok (.agg #[.int .i64 s.a, .int .i64 s.u, .int .i64 s.f0, .int .i64 s.f1, .int .i64 s.b0, .int .i64 s.b1, .int .i64 s.l0, .int .i64 s.l1]) w :=
  (run_loadVar_mid w b 0 68 (cS s) _ h.2.1 Tryd.underlying68 rfl (by kernel_rfl)).trans rfl
theorem load_styA (w : World) (b : Nat) (s : S8) (h : Box w b (cS s)) : (Instr.loadAt 68 (.pointer (some ⟨b, 0, none⟩))).run Tryd.prog w = .ok (.agg #[.int .i64 s.a, .int .i64 s.u, .int .i64 s.f0, .int .i64 s.f1, .int .i64 s.b0, .int .i64 s.b1, .int .i64 s.l0, .int .i64 s.l1]) w :=
  (run_loadAt_mid w b 0 68 (cS s) _ h.2.1 Tryd.underlying68 rfl (by kernel_rfl)).trans rfl
theorem runP_take (s : S8) (l : List P6) (k : Nat) (p : P6) (h : l[k]? = some p) (s' : S8) (hs : runP s (l.take k) = some s') : runP s (l.take (k + 1)) = if okP p then some (app s' p) else none := by
  have hl : l.take (k + 1) = l.take k ++ [p] := by
    rw [List.take_add_one, h]; rfl
  rw [hl]
  generalize l.take k = m at hs
  clear h hl
  induction m generalizing s with
  | nil => cases hs; rfl
  | cons x r ih =>
    unfold runP at hs
    split at hs
    · rename_i hx
      rw [List.cons_append, runP, if_pos hx]
      exact ih _ hs
    · cases hs
theorem runP_bad (s : S8) (l : List P6) (k : Nat) (h : runP s (l.take k) = none) : runP s l = none := by
  induction k generalizing s l with
  | zero => cases h
  | succ k ih =>
    cases l with
    | nil => cases h
    | cons x r =>
      rw [List.take_succ_cons] at h
      unfold runP at h ⊢
      split
      · rename_i hx
        rw [if_pos hx] at h
        exact ih _ _ h
      · rfl
theorem okP_n (p : P6) (h : okP p = true) : p.n = 0 ∨ p.n = 1 ∨ p.n = 2 ∨ p.n = 3 ∨ p.n = 4 ∨ p.n = 5 ∨ p.n = 6 := by
  have hf : fitP p.n p.m p.c0 p.c1 = true := by
    unfold okP at h
    simp only [Bool.and_eq_true] at h
    exact h.2.2
  by_cases hn : 0 ≤ p.n ∧ p.n ≤ 6
  · omega
  · rw [fit_no _ _ _ _ hn] at hf; cases hf
theorem cS_one (s : S8) : ∀ v ∈ cS s, v.oneCell' = true := by
  intro v hv
  simp [cS] at hv
  rcases hv with rfl | rfl | rfl | rfl | rfl | rfl | rfl | rfl <;> rfl
theorem store_sty (w : World) (b : Nat) (s t : S8) (h : Box w b (cS t)) : (Instr.storeAt 68 (.pointer (some ⟨b, 0, none⟩)) (.agg #[.int .i64 s.a, .int .i64 s.u, .int .i64 s.f0, .int .i64 s.f1, .int .i64 s.b0, .int .i64 s.b1, .int .i64 s.l0, .int .i64 s.l1])).run Tryd.prog w = .ok () (w.setCells b 0 (cS s)) :=
  (run_storeAt_mid w b 0 68 (cS s).toArray h.2.2 (by kernel_rfl) (all_oneCell_toArray (cS_one s))).trans rfl
theorem sizeCells (b : Nat) : ∀ (vs : List Value) (o : Nat) (w : World), (w.setCells b o vs).heap.size = w.heap.size
  | [], _, _ => rfl
  | v :: r, o, w => by rw [World.setCells, sizeCells b r]; simp
theorem Box.put {w : World} {b : Nat} {cs ds : List Value} (h : Box w b cs) (hl : ds.length = cs.length) : Box (w.setCells b 0 ds) b ds :=
  ⟨by rw [sizeCells]; exact h.1, World.rangeAt_setCells_same w b 0 ds (by rw [hl]; exact h.2.2), World.there_setCells (by rw [hl]; exact h.2.2) _ _ _⟩
theorem grown_put (b : Nat) : ∀ (vs : List Value) (o : Nat) (w : World), w.grownBy (w.setCells b o vs) (some b)
  | [], _, _ => ⟨rfl, rfl, rfl, Nat.le_refl _, fun _ _ _ => rfl⟩
  | v :: r, o, w => (grown_set w b o v).trans (grown_put b r (o + 1) _)
theorem below_grown {B : Nat} {a w w' : World} {b : Nat} (h : Below B a w) (hg : w.grownBy w' (some b)) (hb : B ≤ b) (hB : B ≤ w.heap.size) : Below B a w' := by
  refine ⟨hg.os.trans h.os, hg.tape.trans h.tape, hg.output.trans h.output, Nat.le_trans h.size hg.size, fun k hk => ?_⟩
  exact (hg.block k (Nat.lt_of_lt_of_le hk hB) (fun e => by injection e with e; omega)).trans (h.block k hk)
end Go.Proofs.YteepfecplabinaaDoor.Sty

namespace Go.Proofs.YteepfecplabinaaDoor.Sty
open Go.RowKit Utf Col

def stV (s : S8) : Value := .agg #[.int .i64 s.a, .int .i64 s.u, .int .i64 s.f0, .int .i64 s.f1, .int .i64 s.b0, .int .i64 s.b1, .int .i64 s.l0, .int .i64 s.l1]
theorem check_s (s : S8) (w : World) (h : Tl w) : Calls Tryd.prog 48 #[.agg #[.int .i64 s.a, .int .i64 s.u, .int .i64 s.f0, .int .i64 s.f1, .int .i64 s.b0, .int .i64 s.b1, .int .i64 s.l0, .int .i64 s.l1]] w fun e w' => e = .returned (.int .i64 (errS s)) ∧ Below w.heap.size w w' := check_any s.a s.u s.f0 s.f1 s.b0 s.b1 s.l0 s.l1 w h
theorem checkPen_p (p : P6) (w : World) (h : Tl w) : Calls Tryd.prog 24 #[.agg #[.int .i64 p.k, .int .i64 p.n, .int .i64 p.m, .int .i64 p.c0, .int .i64 p.c1, .string p.t]] w fun e w' => e = .returned (.int .i64 (errP p)) ∧ Below w.heap.size w w' := checkPen_any p.k p.n p.m p.c0 p.c1 p.t w h
theorem ret_cell {P : Program} {fn : Func} {p u : Tmp} {ty : TypeId} (h : fn.results = #[.cell p ty, .tmp u]) (tmps : Array Value) (w : World) (a : Addr) (v : Value) (ha : tmps.getD p undef = .pointer (some a)) (hl : (loadVar ty a).run P w = .ok v w) :
    (results fn tmps).run P w = .ok (.tuple #[v, tmps.getD u undef]) w := by
  rw [results_cell_tmp h, ha]
  simp [asAddr, hl, Result.andThen]
theorem put8 (w : World) (b : Nat) (s t : S8) (h : Box w b (cS t)) : Box ((((((((w.setCell ⟨b, 0, none⟩ (.int .i64 s.a)).setCell ⟨b, 1, none⟩ (.int .i64 s.u)).setCell ⟨b, 2, none⟩ (.int .i64 s.f0)).setCell ⟨b, 3, none⟩ (.int .i64 s.f1)).setCell ⟨b, 4, none⟩ (.int .i64 s.b0)).setCell ⟨b, 5, none⟩ (.int .i64 s.b1)).setCell ⟨b, 6, none⟩ (.int .i64 s.l0)).setCell ⟨b, 7, none⟩ (.int .i64 s.l1)) b (cS s) := Box.put (ds := cS s) h rfl
theorem below8 {B : Nat} {a w : World} (b : Nat) (s : S8) (h : Below B a w) (hb : B ≤ b) : Below B a ((((((((w.setCell ⟨b, 0, none⟩ (.int .i64 s.a)).setCell ⟨b, 1, none⟩ (.int .i64 s.u)).setCell ⟨b, 2, none⟩ (.int .i64 s.f0)).setCell ⟨b, 3, none⟩ (.int .i64 s.f1)).setCell ⟨b, 4, none⟩ (.int .i64 s.b0)).setCell ⟨b, 5, none⟩ (.int .i64 s.b1)).setCell ⟨b, 6, none⟩ (.int .i64 s.l0)).setCell ⟨b, 7, none⟩ (.int .i64 s.l1)) := ((((((((h.setCell (p := ⟨b, 0, none⟩) hb _).setCell (p := ⟨b, 1, none⟩) hb _).setCell (p := ⟨b, 2, none⟩) hb _).setCell (p := ⟨b, 3, none⟩) hb _).setCell (p := ⟨b, 4, none⟩) hb _).setCell (p := ⟨b, 5, none⟩) hb _).setCell (p := ⟨b, 6, none⟩) hb _).setCell (p := ⟨b, 7, none⟩) hb _)
def runT (s : S8) (l : List P6) : Value := .tuple #[stV (runV s l), .int .i64 (runE s l)]
theorem runT_bad (s : S8) (l : List P6) (h : errS s ≠ 0) : runT s l = .tuple #[stV z8, .int .i64 (errS s)] := by
  unfold runT runV runE; rw [if_neg h, if_neg h]
theorem runT_none (s : S8) (l : List P6) (h : errS s = 0) (hr : runP s l = none) : runT s l = .tuple #[stV z8, .int .i64 141] := by
  unfold runT runV runE; rw [if_pos h, if_pos h, hr]; rfl
theorem runT_some (s : S8) (l : List P6) (h : errS s = 0) (t : S8) (hr : runP s l = some t) : runT s l = .tuple #[stV t, .int .i64 0] := by
  unfold runT runV runE; rw [if_pos h, if_pos h, hr]; rfl
/-- what stands while Run goes over its pens -/
def RunI (w wr : World) (B C q M : Nat) (s : S8) : Prop :=
  Below w.heap.size w wr ∧ Box wr B (cS s) ∧ Box wr C (cS z8) ∧ q < wr.heap.size ∧ wr.cell? ⟨q, 0, none⟩ = some (.pointer (some ⟨B, 0, none⟩)) ∧ wr.heap[M]? = some (.map (ent ⟨q, 0, none⟩) 7)
theorem RunI.keep {w wr w' : World} {B C q M : Nat} {s : S8} (h : RunI w wr B C q M s) (hb : Below wr.heap.size wr w') : RunI w w' B C q M s := by
  obtain ⟨h1, h2, h3, h4, h5, h6⟩ := h
  exact ⟨h1.trans (hb.mono h1.size), h2.keep hb, h3.keep hb, Nat.lt_of_lt_of_le h4 hb.size, (hb.cell (p := ⟨q, 0, none⟩) h4).trans h5, (hb.block M (Array.getElem?_eq_some_iff.1 h6).1).trans h6⟩
theorem RunI.eff {w wr w' : World} {B C q M : Nat} {s t : S8} (h : RunI w wr B C q M s) (hB : w.heap.size ≤ B) (hBC : B ≠ C) (hBq : B ≠ q) (hBM : B ≠ M) (e : Ending) (hp : EffPost wr B t e w') : RunI w w' B C q M t := by
  obtain ⟨h1, h2, h3, h4, h5, h6⟩ := h
  obtain ⟨_, k2, k3⟩ := hp
  refine ⟨below_grown h1 k3 hB h1.size, k2, h3.grown k3 (fun e => by injection e with e; exact hBC e.symm), Nat.lt_of_lt_of_le h4 k3.size, ?_, ?_⟩
  · exact k3.cell h5 (fun e => by injection e with e; exact hBq e.symm)
  · exact (k3.block M (Array.getElem?_eq_some_iff.1 h6).1 (fun e => by injection e with e; exact hBM e.symm)).trans h6
set_option maxRecDepth 100000 in
set_option maxHeartbeats 4000000 in
theorem run_any (s : S8) (A : Option Addr) (ps : List P6) (c : Nat) (w : World) (h : Tl w) (hr : RdP w A ps) (hn : ps.length ≤ 1000000) : Calls Tryd.prog 25 #[stV s, .slice A ps.length c] w fun e w' => e = .returned (runT s ps) ∧ Below w.heap.size w w' := by
  have H := Lib.hid h; clear h
  have HR := Lib.hid hr; clear hr
  unfold stV
  by_cases hs : errS s = 0
  · have Hs := Lib.hid hs; clear hs
    go_enter Tryd.func25, Tryd.ntmps25
    go_wp2_with fail
    refine (check_s s _ ((H.out).keep ((below_box w _).alloc (by simp) _))).mono ?_
    rw [Hs.out]
    rintro e w1 ⟨rfl, hb1⟩
    go_wp2_with fail
    refine (effects_any _ _).mono ?_
    rintro e w2 ⟨rfl, rfl⟩
    have hz1 := hb1.size
    have k0 : w.heap.size + 1 + 1 ≤ w1.heap.size := by simpa using hz1
    have hB0 : Box w1 w.heap.size (cS s) := ((Box.new w _ 68).alloc _).keep hb1
    have hC0 : Box w1 (w.heap.size + 1) (cS z8) := by
      have := Box.new (w.alloc (.cells #[.int .i64 s.a, .int .i64 s.u, .int .i64 s.f0, .int .i64 s.f1, .int .i64 s.b0, .int .i64 s.b1, .int .i64 s.l0, .int .i64 s.l1] 68)) #[.int .i64 0, .int .i64 0, .int .i64 0, .int .i64 0, .int .i64 0, .int .i64 0, .int .i64 0, .int .i64 0] 68
      rw [show (w.alloc (.cells #[.int .i64 s.a, .int .i64 s.u, .int .i64 s.f0, .int .i64 s.f1, .int .i64 s.b0, .int .i64 s.b1, .int .i64 s.l0, .int .i64 s.l1] 68)).heap.size = w.heap.size + 1 by simp] at this
      exact this.keep hb1
    have hW0 : Below w.heap.size w w1 := ((below_box w _).alloc (by simp) _).trans (hb1.mono (by simp; omega))
    have I0 : RunI w ((w1.alloc (.cells #[.pointer (some ⟨w.heap.size, 0, none⟩)] 97)).alloc (.map (ent ⟨w1.heap.size, 0, none⟩) 7)) w.heap.size (w.heap.size + 1) w1.heap.size (w1.heap.size + 1) s := by
      refine ⟨(hW0.alloc (by omega) _).alloc (by simp; omega) _, (hB0.alloc _).alloc _, (hC0.alloc _).alloc _, by simp; omega, ?_, alloc1_at _ _ _⟩
      exact ((Box.new w1 #[.pointer (some ⟨w.heap.size, 0, none⟩)] 97).alloc _).cell 0 _ rfl
    generalize (w1.alloc (.cells #[.pointer (some ⟨w.heap.size, 0, none⟩)] 97)).alloc (.map (ent ⟨w1.heap.size, 0, none⟩) 7) = w2 at I0 ⊢
    have kq : w.heap.size ≠ w1.heap.size := by omega
    have kM : w.heap.size ≠ w1.heap.size + 1 := by omega
    clear hb1 hz1 hB0 hC0 hW0
    generalize w1.heap.size = q at I0 k0 kq kM ⊢
    have HI := Lib.hid I0; clear I0
    go_wp2_with fail
    go_loopw [20] (fun i wr => ∃ k : Nat, k ≤ ps.length ∧ i = .int .i64 k ∧ Hid (∃ t, runP s (ps.take k) = some t ∧ RunI w wr w.heap.size (w.heap.size + 1) q (q + 1) t)) (fun i _ => ps.length - (intOf i).toNat)
    case atStart => exact ⟨0, by omega, rfl, Lib.hid ⟨s, rfl, HI.out⟩⟩
    case round =>
      clear HI
      obtain ⟨k, hk, rfl, hid⟩ := hrel
      obtain ⟨t, ht, I1⟩ := hid.out
      clear hid
      by_cases hkn : k < ps.length
      · obtain ⟨p, hp⟩ : ∃ p, ps[k]? = some p := ⟨_, List.getElem?_eq_getElem hkn⟩
        have Ht := Lib.hid (runP_take s ps k p hp t ht); clear ht
        obtain ⟨b, o, rfl, hbl, hrg⟩ := HR.out k p hp
        have e1 := fun W => ix_run b o ps.length c k hkn W
        have hrg' : wr.rangeAt b (o + k * 6) (cP p) := fun i v hv => (I1.1.cell (p := ⟨b, o + k * 6 + i, none⟩) hbl).trans (hrg i v hv)
        have y0 : wr.cell? ⟨b, o + k * 6, none⟩ = some (.int .i64 p.k) := hrg' 0 _ rfl
        have y1 : wr.cell? ⟨b, o + k * 6 + 1, none⟩ = some (.int .i64 p.n) := hrg' 1 _ rfl
        have y2 : wr.cell? ⟨b, o + k * 6 + 2, none⟩ = some (.int .i64 p.m) := hrg' 2 _ rfl
        have y3 : wr.cell? ⟨b, o + k * 6 + 3, none⟩ = some (.int .i64 p.c0) := hrg' 3 _ rfl
        have y4 : wr.cell? ⟨b, o + k * 6 + 4, none⟩ = some (.int .i64 p.c1) := hrg' 4 _ rfl
        have y5 : wr.cell? ⟨b, o + k * 6 + 5, none⟩ = some (.string p.t) := hrg' 5 _ rfl
        clear hrg hrg'
        have hlt : (k : Int) < (ps.length : Int) := by omega
        have HI := Lib.hid I1
        have hsz := I1.1.size
        clear I1
        go_wp2_with fail
        have I2 := HI.out.keep (below_box wr (.cells #[.int .i64 p.k, .int .i64 p.n, .int .i64 p.m, .int .i64 p.c0, .int .i64 p.c1, .string p.t] 48))
        have hP : Box (wr.alloc (.cells #[.int .i64 p.k, .int .i64 p.n, .int .i64 p.m, .int .i64 p.c0, .int .i64 p.c1, .string p.t] 48)) wr.heap.size (cP p) := Box.new wr _ _
        generalize wr.alloc (.cells #[.int .i64 p.k, .int .i64 p.n, .int .i64 p.m, .int .i64 p.c0, .int .i64 p.c1, .string p.t] 48) = w3 at I2 hP ⊢
        generalize wr.heap.size = D at hP ⊢
        clear HI e1 hsz y0 y1 y2 y3 y4 y5
        refine (checkPen_p p _ ((H.out).keep I2.1)).mono ?_
        rintro e w4 ⟨rfl, hb4⟩
        have I4 := I2.keep hb4
        have P4 := hP.keep hb4
        clear I2 hP hb4
        obtain ⟨y, hy⟩ : ∃ y, okP p = y := ⟨_, rfl⟩
        cases y
        · have He := Lib.hid (show errP p = 141 by unfold errP; rw [hy]; rfl)
          have Hf := Lib.hid (runT_none s ps Hs.out (runP_bad s ps (k + 1) (by rw [Ht.out, hy]; rfl)))
          rw [He.out]
          have hlC := I4.2.2.1.1
          have xC0 := (I4.2.2.1).cell 0 _ rfl
          have vC0 := (I4.2.2.1).free 0 (by show 0 < 8; decide)
          have xC1 := (I4.2.2.1).cell 1 _ rfl
          have vC1 := (I4.2.2.1).free 1 (by show 1 < 8; decide)
          have xC2 := (I4.2.2.1).cell 2 _ rfl
          have vC2 := (I4.2.2.1).free 2 (by show 2 < 8; decide)
          have xC3 := (I4.2.2.1).cell 3 _ rfl
          have vC3 := (I4.2.2.1).free 3 (by show 3 < 8; decide)
          have xC4 := (I4.2.2.1).cell 4 _ rfl
          have vC4 := (I4.2.2.1).free 4 (by show 4 < 8; decide)
          have xC5 := (I4.2.2.1).cell 5 _ rfl
          have vC5 := (I4.2.2.1).free 5 (by show 5 < 8; decide)
          have xC6 := (I4.2.2.1).cell 6 _ rfl
          have vC6 := (I4.2.2.1).free 6 (by show 6 < 8; decide)
          have xC7 := (I4.2.2.1).cell 7 _ rfl
          have vC7 := (I4.2.2.1).free 7 (by show 7 < 8; decide)
          have HI := Lib.hid I4
          clear I4 P4 hy Ht
          go_wp2
          refine bodyPost_ret (ret_cell rfl _ _ ⟨w.heap.size + 1, 0, none⟩ _ rfl (load_sty _ _ z8 (put8 w4 _ z8 z8 HI.out.2.2.1))) rfl ?_
          exact ⟨by rw [Hf.out]; rfl, below8 _ z8 HI.out.1 (by omega)⟩
        · have He := Lib.hid (show errP p = 0 by unfold errP; rw [hy]; rfl)
          have Hq := Lib.hid (show runP s (ps.take (k + 1)) = some (app t p) by rw [Ht.out, hy]; rfl)
          rw [He.out]
          have hn7 := okP_n p hy
          have hlD := P4.1
          have xD0 := (P4).cell 0 _ rfl
          have xD1 := (P4).cell 1 _ rfl
          have xD2 := (P4).cell 2 _ rfl
          have xD3 := (P4).cell 3 _ rfl
          have xD4 := (P4).cell 4 _ rfl
          have xD5 := (P4).cell 5 _ rfl
          have hM := I4.2.2.2.2.2
          have HI := Lib.hid I4
          clear I4 P4 hy Ht He
          obtain ⟨pk, pn, pm, pc, pd, pt⟩ := p
          simp only at hn7 xD0 xD1 xD2 xD3 xD4 xD5 ⊢
          rcases hn7 with hn7 | hn7 | hn7 | hn7 | hn7 | hn7 | hn7
          · subst hn7
            have e6 := look0 ⟨q, 0, none⟩ (q + 1) w4 hM
            clear hM
            go_wp2_with fail
            refine (eff0 pk 0 pm pc pd pt t.a t.u t.f0 t.f1 t.b0 t.b1 t.l0 t.l1 w.heap.size q w4 HI.out.2.1 HI.out.2.2.2.1 HI.out.2.2.2.2.1).mono ?_
            intro e w5 hp5
            have I5 := Lib.hid (HI.out.eff (Nat.le_refl _) (by omega) kq kM e hp5)
            obtain rfl := hp5.1
            clear hp5
            go_wp2
            go_roundw
            case rel => exact ⟨k + 1, by omega, rfl, Lib.hid ⟨_, Hq.out, I5.out⟩⟩
            case measure => simp [intOf]; omega
          · subst hn7
            have e6 := look1 ⟨q, 0, none⟩ (q + 1) w4 hM
            clear hM
            go_wp2_with fail
            refine (eff1 pk 1 pm pc pd pt t.a t.u t.f0 t.f1 t.b0 t.b1 t.l0 t.l1 w.heap.size q w4 HI.out.2.1 HI.out.2.2.2.1 HI.out.2.2.2.2.1).mono ?_
            intro e w5 hp5
            have I5 := Lib.hid (HI.out.eff (Nat.le_refl _) (by omega) kq kM e hp5)
            obtain rfl := hp5.1
            clear hp5
            go_wp2
            go_roundw
            case rel => exact ⟨k + 1, by omega, rfl, Lib.hid ⟨_, Hq.out, I5.out⟩⟩
            case measure => simp [intOf]; omega
          · subst hn7
            have e6 := look2 ⟨q, 0, none⟩ (q + 1) w4 hM
            clear hM
            go_wp2_with fail
            refine (eff2 pk 2 pm pc pd pt t.a t.u t.f0 t.f1 t.b0 t.b1 t.l0 t.l1 w.heap.size q w4 HI.out.2.1 HI.out.2.2.2.1 HI.out.2.2.2.2.1).mono ?_
            intro e w5 hp5
            have I5 := Lib.hid (HI.out.eff (Nat.le_refl _) (by omega) kq kM e hp5)
            obtain rfl := hp5.1
            clear hp5
            go_wp2
            go_roundw
            case rel => exact ⟨k + 1, by omega, rfl, Lib.hid ⟨_, Hq.out, I5.out⟩⟩
            case measure => simp [intOf]; omega
          · subst hn7
            have e6 := look3 ⟨q, 0, none⟩ (q + 1) w4 hM
            clear hM
            go_wp2_with fail
            refine (eff3 pk 3 pm pc pd pt t.a t.u t.f0 t.f1 t.b0 t.b1 t.l0 t.l1 w.heap.size q w4 HI.out.2.1 HI.out.2.2.2.1 HI.out.2.2.2.2.1).mono ?_
            intro e w5 hp5
            have I5 := Lib.hid (HI.out.eff (Nat.le_refl _) (by omega) kq kM e hp5)
            obtain rfl := hp5.1
            clear hp5
            go_wp2
            go_roundw
            case rel => exact ⟨k + 1, by omega, rfl, Lib.hid ⟨_, Hq.out, I5.out⟩⟩
            case measure => simp [intOf]; omega
          · subst hn7
            have e6 := look4 ⟨q, 0, none⟩ (q + 1) w4 hM
            clear hM
            go_wp2_with fail
            refine (eff4 pk 4 pm pc pd pt t.a t.u t.f0 t.f1 t.b0 t.b1 t.l0 t.l1 w.heap.size q w4 HI.out.2.1 HI.out.2.2.2.1 HI.out.2.2.2.2.1).mono ?_
            intro e w5 hp5
            have I5 := Lib.hid (HI.out.eff (Nat.le_refl _) (by omega) kq kM e hp5)
            obtain rfl := hp5.1
            clear hp5
            go_wp2
            go_roundw
            case rel => exact ⟨k + 1, by omega, rfl, Lib.hid ⟨_, Hq.out, I5.out⟩⟩
            case measure => simp [intOf]; omega
          · subst hn7
            have e6 := look5 ⟨q, 0, none⟩ (q + 1) w4 hM
            clear hM
            go_wp2_with fail
            refine (eff5 pk 5 pm pc pd pt t.a t.u t.f0 t.f1 t.b0 t.b1 t.l0 t.l1 w.heap.size q w4 HI.out.2.1 HI.out.2.2.2.1 HI.out.2.2.2.2.1).mono ?_
            intro e w5 hp5
            have I5 := Lib.hid (HI.out.eff (Nat.le_refl _) (by omega) kq kM e hp5)
            obtain rfl := hp5.1
            clear hp5
            go_wp2
            go_roundw
            case rel => exact ⟨k + 1, by omega, rfl, Lib.hid ⟨_, Hq.out, I5.out⟩⟩
            case measure => simp [intOf]; omega
          · subst hn7
            have e6 := look6 ⟨q, 0, none⟩ (q + 1) w4 hM
            clear hM
            go_wp2_with fail
            refine (eff6 pk 6 pm pc pd pt t.a t.u t.f0 t.f1 t.b0 t.b1 t.l0 t.l1 w.heap.size q w4 HI.out.2.1 HI.out.2.2.2.1 HI.out.2.2.2.2.1).mono ?_
            intro e w5 hp5
            have I5 := Lib.hid (HI.out.eff (Nat.le_refl _) (by omega) kq kM e hp5)
            obtain rfl := hp5.1
            clear hp5
            go_wp2
            go_roundw
            case rel => exact ⟨k + 1, by omega, rfl, Lib.hid ⟨_, Hq.out, I5.out⟩⟩
            case measure => simp [intOf]; omega
      · obtain rfl : k = ps.length := by omega
        have Hf := Lib.hid (runT_some s ps Hs.out t (by rw [List.take_length] at ht; exact ht))
        have hlB := I1.2.1.1
        have hlC := I1.2.2.1.1
        have xB0 := (I1.2.1).cell 0 _ rfl
        have xB1 := (I1.2.1).cell 1 _ rfl
        have xB2 := (I1.2.1).cell 2 _ rfl
        have xB3 := (I1.2.1).cell 3 _ rfl
        have xB4 := (I1.2.1).cell 4 _ rfl
        have xB5 := (I1.2.1).cell 5 _ rfl
        have xB6 := (I1.2.1).cell 6 _ rfl
        have xB7 := (I1.2.1).cell 7 _ rfl
        have xC0 := (I1.2.2.1).cell 0 _ rfl
        have vC0 := (I1.2.2.1).free 0 (by show 0 < 8; decide)
        have xC1 := (I1.2.2.1).cell 1 _ rfl
        have vC1 := (I1.2.2.1).free 1 (by show 1 < 8; decide)
        have xC2 := (I1.2.2.1).cell 2 _ rfl
        have vC2 := (I1.2.2.1).free 2 (by show 2 < 8; decide)
        have xC3 := (I1.2.2.1).cell 3 _ rfl
        have vC3 := (I1.2.2.1).free 3 (by show 3 < 8; decide)
        have xC4 := (I1.2.2.1).cell 4 _ rfl
        have vC4 := (I1.2.2.1).free 4 (by show 4 < 8; decide)
        have xC5 := (I1.2.2.1).cell 5 _ rfl
        have vC5 := (I1.2.2.1).free 5 (by show 5 < 8; decide)
        have xC6 := (I1.2.2.1).cell 6 _ rfl
        have vC6 := (I1.2.2.1).free 6 (by show 6 < 8; decide)
        have xC7 := (I1.2.2.1).cell 7 _ rfl
        have vC7 := (I1.2.2.1).free 7 (by show 7 < 8; decide)
        have HI := Lib.hid I1
        clear I1 ht
        go_wp2
        refine bodyPost_ret (ret_cell rfl _ _ ⟨w.heap.size + 1, 0, none⟩ _ rfl (load_sty _ _ t (put8 wr _ t z8 HI.out.2.2.1))) rfl ?_
        exact ⟨by rw [Hf.out]; rfl, below8 _ t HI.out.1 (by omega)⟩
  · have Hf := Lib.hid (runT_bad s ps hs)
    have d0 : (errS s != 0) = true := by simpa using hs
    clear hs
    go_enter Tryd.func25, Tryd.ntmps25
    go_wp2_with fail
    refine (check_s s _ ((H.out).keep ((below_box w _).alloc (by simp) _))).mono ?_
    rintro e w1 ⟨rfl, hb1⟩
    have hC0 : Box w1 (w.heap.size + 1) (cS z8) := by
      have := Box.new (w.alloc (.cells #[.int .i64 s.a, .int .i64 s.u, .int .i64 s.f0, .int .i64 s.f1, .int .i64 s.b0, .int .i64 s.b1, .int .i64 s.l0, .int .i64 s.l1] 68)) #[.int .i64 0, .int .i64 0, .int .i64 0, .int .i64 0, .int .i64 0, .int .i64 0, .int .i64 0, .int .i64 0] 68
      rw [show (w.alloc (.cells #[.int .i64 s.a, .int .i64 s.u, .int .i64 s.f0, .int .i64 s.f1, .int .i64 s.b0, .int .i64 s.b1, .int .i64 s.l0, .int .i64 s.l1] 68)).heap.size = w.heap.size + 1 by simp] at this
      exact this.keep hb1
    have hW0 := Lib.hid (show Below w.heap.size w w1 from ((below_box w _).alloc (by simp) _).trans (hb1.mono (by simp; omega)))
    clear hb1
    have hlC := hC0.1
    have xC0 := (hC0).cell 0 _ rfl
    have vC0 := (hC0).free 0 (by show 0 < 8; decide)
    have xC1 := (hC0).cell 1 _ rfl
    have vC1 := (hC0).free 1 (by show 1 < 8; decide)
    have xC2 := (hC0).cell 2 _ rfl
    have vC2 := (hC0).free 2 (by show 2 < 8; decide)
    have xC3 := (hC0).cell 3 _ rfl
    have vC3 := (hC0).free 3 (by show 3 < 8; decide)
    have xC4 := (hC0).cell 4 _ rfl
    have vC4 := (hC0).free 4 (by show 4 < 8; decide)
    have xC5 := (hC0).cell 5 _ rfl
    have vC5 := (hC0).free 5 (by show 5 < 8; decide)
    have xC6 := (hC0).cell 6 _ rfl
    have vC6 := (hC0).free 6 (by show 6 < 8; decide)
    have xC7 := (hC0).cell 7 _ rfl
    have vC7 := (hC0).free 7 (by show 7 < 8; decide)
    have HC := Lib.hid hC0
    clear hC0
    generalize errS s = x at d0 Hf ⊢
    go_wp2
    refine bodyPost_ret (ret_cell rfl _ _ ⟨w.heap.size + 1, 0, none⟩ _ rfl (load_sty _ _ z8 (put8 w1 _ z8 z8 HC.out))) rfl ?_
    exact ⟨by rw [Hf.out]; rfl, below8 _ z8 hW0.out (by omega)⟩
end Go.Proofs.YteepfecplabinaaDoor.Sty

namespace Go.Proofs.YteepfecplabinaaDoor.Sty
open Go.RowKit Utf Col

def pnV (p : P6) : Value := .agg #[.int .i64 p.k, .int .i64 p.n, .int .i64 p.m, .int .i64 p.c0, .int .i64 p.c1, .string p.t]
/-- a slice of actions that the call lays -/
theorem RdP.of {w : World} {B : Nat} {cs : Array Value} {t : TypeId} {fr : Nat × Nat} (h : w.heap[B]? = some (.cells cs t fr)) (ps : List P6) (hc : ∀ j p, ps[j]? = some p → ∀ i v, (cP p)[i]? = some v → cs[j * 6 + i]? = some v) : RdP w (some ⟨B, 0, none⟩) ps := fun j p hp =>
  ⟨B, 0, rfl, (Array.getElem?_eq_some_iff.1 h).1, fun i v hv => by
    rw [Joins.cell_of_block h]
    rw [Nat.zero_add]
    exact hc j p hp i v hv⟩
theorem RdP.one (w : World) (p : P6) (t : TypeId) : RdP (w.alloc (.cells #[.int .i64 p.k, .int .i64 p.n, .int .i64 p.m, .int .i64 p.c0, .int .i64 p.c1, .string p.t] t)) (some ⟨w.heap.size, 0, none⟩) [p] :=
  RdP.of (heap_alloc_new w _) [p] fun j q hq i v hv => by
    cases j with
    | zero => cases hq; simpa [cP] using hv
    | succ j => simp at hq
theorem RdP.nil (w : World) (A : Option Addr) : RdP w A [] := fun j p hp => by simp at hp
theorem run_t (s : S8) (A : Option Addr) (ps : List P6) (n c : Nat) (hn : ps.length = n) (w : World) (h : Tl w) (hr : RdP w A ps) (hm : n ≤ 1000000) : Calls Tryd.prog 25 #[.agg #[.int .i64 s.a, .int .i64 s.u, .int .i64 s.f0, .int .i64 s.f1, .int .i64 s.b0, .int .i64 s.b1, .int .i64 s.l0, .int .i64 s.l1], .slice A n c] w fun e w' => e = .returned (.tuple #[.agg #[.int .i64 (runV s ps).a, .int .i64 (runV s ps).u, .int .i64 (runV s ps).f0, .int .i64 (runV s ps).f1, .int .i64 (runV s ps).b0, .int .i64 (runV s ps).b1, .int .i64 (runV s ps).l0, .int .i64 (runV s ps).l1], .int .i64 (runE s ps)]) ∧ Below w.heap.size w w' := by
  subst hn; exact run_any s A ps c w h hr hm
theorem alloc2_at (w : World) (o o' o'' : Obj) : (((w.alloc o).alloc o').alloc o'').heap[w.heap.size + 1 + 1]? = some o'' := by
  have := heap_alloc_new ((w.alloc o).alloc o') o''
  rwa [show ((w.alloc o).alloc o').heap.size = w.heap.size + 1 + 1 by simp] at this
theorem alloc3_at (w : World) (o o' o'' o3 : Obj) : ((((w.alloc o).alloc o').alloc o'').alloc o3).heap[w.heap.size + 1 + 1 + 1]? = some o3 := by
  have := heap_alloc_new (((w.alloc o).alloc o').alloc o'') o3
  rwa [show (((w.alloc o).alloc o').alloc o'').heap.size = w.heap.size + 1 + 1 + 1 by simp] at this
theorem load_act (w : World) (b : Nat) (p : P6) (h : w.rangeAt b 0 (cP p)) : (loadVar 48 ⟨b, 0, none⟩).run Tryd.prog w = .ok (.agg #[.int .i64 p.k, .int .i64 p.n, .int .i64 p.m, .int .i64 p.c0, .int .i64 p.c1, .string p.t]) w :=
  (run_loadVar_mid w b 0 48 (cP p) _ h Tryd.underlying48 rfl (by kernel_rfl)).trans rfl
end Go.Proofs.YteepfecplabinaaDoor.Sty

namespace Go.Proofs.YteepfecplabinaaDoor.Sty
open Go.RowKit Utf Col

/-- the cells of a list of actions, as they lie side by side -/
def cPs (ps : List P6) : List Value := ps.flatMap cP
theorem cPs_at (ps : List P6) : ∀ j p, ps[j]? = some p → ∀ i v, (cP p)[i]? = some v → (cPs ps)[j * 6 + i]? = some v := by
  induction ps with
  | nil => intro j p hp; simp at hp
  | cons x r ih =>
    intro j p hp i v hv
    have hi : i < 6 := (List.getElem?_eq_some_iff.1 hv).1
    have hx : (cP x).length = 6 := rfl
    show (cP x ++ cPs r)[j * 6 + i]? = some v
    cases j with
    | zero =>
      cases hp
      rw [Nat.zero_mul, Nat.zero_add, List.getElem?_append_left (by rw [hx]; exact hi)]
      exact hv
    | succ j =>
      rw [List.getElem?_append_right (by rw [hx]; omega), hx, show (j + 1) * 6 + i - 6 = j * 6 + i by omega]
      exact ih j p (by simpa using hp) i v hv
theorem RdP.lay (w : World) (ps : List P6) (cs : Array Value) (t : TypeId) (h : cs = (cPs ps).toArray) : RdP (w.alloc (.cells cs t)) (some ⟨w.heap.size, 0, none⟩) ps := by
  subst h
  exact RdP.of (heap_alloc_new w _) ps fun j p hp i v hv => by simpa using cPs_at ps j p hp i v hv
theorem checkPen_is (p : P6) (r : Int) (hr : errP p = r) (w : World) (h : Tl w) : Calls Tryd.prog 24 #[.agg #[.int .i64 p.k, .int .i64 p.n, .int .i64 p.m, .int .i64 p.c0, .int .i64 p.c1, .string p.t]] w fun e w' => e = .returned (.int .i64 r) ∧ Below w.heap.size w w' := by
  subst hr; exact checkPen_p p w h
end Go.Proofs.YteepfecplabinaaDoor.Sty
