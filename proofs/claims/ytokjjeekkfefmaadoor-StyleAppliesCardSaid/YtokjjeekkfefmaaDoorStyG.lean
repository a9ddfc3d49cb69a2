/-
  Slices of actions in memory; contracts of the style package's Run and Apply.
-/
import Derived.Test.YtokjjeekkfefmaaDoorStyF
namespace Go.Proofs.YtokjjeekkfefmaaDoor.Sty
open Go.RowKit Utf Col
def cP (p : P6) : List Value := [.int .i64 p.k, .int .i64 p.n, .int .i64 p.m, .int .i64 p.c0, .int .i64 p.c1, .string p.t]
/-- the actions of a slice lie in memory -/
def RdP (w : World) (A : Option Addr) (ps : List P6) : Prop := ∀ j p, ps[j]? = some p → ∃ b o, A = some ⟨b, o, none⟩ ∧ b < w.heap.size ∧ w.rangeAt b (o + j * 6) (cP p)
theorem RdP.keep {w w' : World} {A : Option Addr} {ps : List P6} (h : RdP w A ps) (hb : Below w.heap.size w w') : RdP w' A ps := fun j p hp => by
  obtain ⟨b, o, hA, hlt, hr⟩ := h j p hp
  exact ⟨b, o, hA, Nat.lt_of_lt_of_le hlt hb.size, fun i v hv => (hb.cell (p := ⟨b, o + j * 6 + i, none⟩) hlt).trans (hr i v hv)⟩
theorem ix_run (b o n c k : Nat) (h : k < n) (w : World) : (Instr.indexAt 43 (.slice (some ⟨b, o, none⟩) n c) (.int .i64 (k : Int))).run Tryd.prog w = .ok (.pointer (some ⟨b, o + k * 6, none⟩)) w := by
  have h1 : (k : Int) < (n : Int) := by omega
  rw [run_indexAt_slice w 43 _ _ _ _ _ Tryd.underlying43]
  go_simp
theorem look0 (q : Addr) (b : Nat) (w : World) (h : w.heap[b]? = some (.map (ent q) 7)) : (Instr.lookup 65 (.map (some b)) (.int .i64 0) false).run Tryd.prog w = .ok (.func (.func 37) #[] #[.pointer (some q)]) w := by
  have hk : Instr.findNow (.int .i64) (.int .i64 0) (ent q).toList 0 = some (some (0, .func (.func 37) #[] #[.pointer (some q)])) := rfl
  have hc : ∀ x, (Instr.checkKey false 10000 3 (.int .i64 0)).run Tryd.prog x = .ok () x := fun x => MapKept.run_checkKey (k := .int .i64 0) Tryd.underlying3 (by simp [MapKept.IsKey]) false 9999
  have he : (ent q).isEmpty = false := rfl
  simp [Instr.lookup, run_underlying Tryd.underlying65, MapKept.run_getObj_map h, he, hc, MapKept.run_findKey Tryd.underlying3 hk, Result.andThen]
theorem look1 (q : Addr) (b : Nat) (w : World) (h : w.heap[b]? = some (.map (ent q) 7)) : (Instr.lookup 65 (.map (some b)) (.int .i64 1) false).run Tryd.prog w = .ok (.func (.func 38) #[] #[.pointer (some q)]) w := by
  have hk : Instr.findNow (.int .i64) (.int .i64 1) (ent q).toList 0 = some (some (1, .func (.func 38) #[] #[.pointer (some q)])) := rfl
  have hc : ∀ x, (Instr.checkKey false 10000 3 (.int .i64 1)).run Tryd.prog x = .ok () x := fun x => MapKept.run_checkKey (k := .int .i64 1) Tryd.underlying3 (by simp [MapKept.IsKey]) false 9999
  have he : (ent q).isEmpty = false := rfl
  simp [Instr.lookup, run_underlying Tryd.underlying65, MapKept.run_getObj_map h, he, hc, MapKept.run_findKey Tryd.underlying3 hk, Result.andThen]
theorem look2 (q : Addr) (b : Nat) (w : World) (h : w.heap[b]? = some (.map (ent q) 7)) : (Instr.lookup 65 (.map (some b)) (.int .i64 2) false).run Tryd.prog w = .ok (.func (.func 39) #[] #[.pointer (some q)]) w := by
  have hk : Instr.findNow (.int .i64) (.int .i64 2) (ent q).toList 0 = some (some (2, .func (.func 39) #[] #[.pointer (some q)])) := rfl
  have hc : ∀ x, (Instr.checkKey false 10000 3 (.int .i64 2)).run Tryd.prog x = .ok () x := fun x => MapKept.run_checkKey (k := .int .i64 2) Tryd.underlying3 (by simp [MapKept.IsKey]) false 9999
  have he : (ent q).isEmpty = false := rfl
  simp [Instr.lookup, run_underlying Tryd.underlying65, MapKept.run_getObj_map h, he, hc, MapKept.run_findKey Tryd.underlying3 hk, Result.andThen]
theorem look3 (q : Addr) (b : Nat) (w : World) (h : w.heap[b]? = some (.map (ent q) 7)) : (Instr.lookup 65 (.map (some b)) (.int .i64 3) false).run Tryd.prog w = .ok (.func (.func 40) #[] #[.pointer (some q)]) w := by
  have hk : Instr.findNow (.int .i64) (.int .i64 3) (ent q).toList 0 = some (some (3, .func (.func 40) #[] #[.pointer (some q)])) := rfl
  have hc : ∀ x, (Instr.checkKey false 10000 3 (.int .i64 3)).run Tryd.prog x = .ok () x := fun x => MapKept.run_checkKey (k := .int .i64 3) Tryd.underlying3 (by simp [MapKept.IsKey]) false 9999
  have he : (ent q).isEmpty = false := rfl
  simp [Instr.lookup, run_underlying Tryd.underlying65, MapKept.run_getObj_map h, he, hc, MapKept.run_findKey Tryd.underlying3 hk, Result.andThen]
theorem look4 (q : Addr) (b : Nat) (w : World) (h : w.heap[b]? = some (.map (ent q) 7)) : (Instr.lookup 65 (.map (some b)) (.int .i64 4) false).run Tryd.prog w = .ok (.func (.func 41) #[] #[.pointer (some q)]) w := by
  have hk : Instr.findNow (.int .i64) (.int .i64 4) (ent q).toList 0 = some (some (4, .func (.func 41) #[] #[.pointer (some q)])) := rfl
  have hc : ∀ x, (Instr.checkKey false 10000 3 (.int .i64 4)).run Tryd.prog x = .ok () x := fun x => MapKept.run_checkKey (k := .int .i64 4) Tryd.underlying3 (by simp [MapKept.IsKey]) false 9999
  have he : (ent q).isEmpty = false := rfl
  simp [Instr.lookup, run_underlying Tryd.underlying65, MapKept.run_getObj_map h, he, hc, MapKept.run_findKey Tryd.underlying3 hk, Result.andThen]
theorem look5 (q : Addr) (b : Nat) (w : World) (h : w.heap[b]? = some (.map (ent q) 7)) : (Instr.lookup 65 (.map (some b)) (.int .i64 5) false).run Tryd.prog w = .ok (.func (.func 42) #[] #[.pointer (some q)]) w := by
  have hk : Instr.findNow (.int .i64) (.int .i64 5) (ent q).toList 0 = some (some (5, .func (.func 42) #[] #[.pointer (some q)])) := rfl
  have hc : ∀ x, (Instr.checkKey false 10000 3 (.int .i64 5)).run Tryd.prog x = .ok () x := fun x => MapKept.run_checkKey (k := .int .i64 5) Tryd.underlying3 (by simp [MapKept.IsKey]) false 9999
  have he : (ent q).isEmpty = false := rfl
  simp [Instr.lookup, run_underlying Tryd.underlying65, MapKept.run_getObj_map h, he, hc, MapKept.run_findKey Tryd.underlying3 hk, Result.andThen]
theorem look6 (q : Addr) (b : Nat) (w : World) (h : w.heap[b]? = some (.map (ent q) 7)) : (Instr.lookup 65 (.map (some b)) (.int .i64 6) false).run Tryd.prog w = .ok (.func (.func 43) #[] #[.pointer (some q)]) w := by
  have hk : Instr.findNow (.int .i64) (.int .i64 6) (ent q).toList 0 = some (some (6, .func (.func 43) #[] #[.pointer (some q)])) := rfl
  have hc : ∀ x, (Instr.checkKey false 10000 3 (.int .i64 6)).run Tryd.prog x = .ok () x := fun x => MapKept.run_checkKey (k := .int .i64 6) Tryd.underlying3 (by simp [MapKept.IsKey]) false 9999
  have he : (ent q).isEmpty = false := rfl
  simp [Instr.lookup, run_underlying Tryd.underlying65, MapKept.run_getObj_map h, he, hc, MapKept.run_findKey Tryd.underlying3 hk, Result.andThen]
theorem load_pen (w : World) (b o : Nat) (p : P6) (h : w.rangeAt b o (cP p)) : (Instr.loadAt 27 (.pointer (some ⟨b, o, none⟩))).run Tryd.prog w = .ok (.agg #[.int .i64 p.k, .int .i64 p.n, .int .i64 p.m, .int .i64 p.c0, .int .i64 p.c1, .string p.t]) w :=
  (run_loadAt_mid w b o 27 (cP p) _ h Tryd.underlying27 rfl (by kernel_rfl)).trans rfl
theorem load_sty (w : World) (b : Nat) (s : S8) (h : Box w b (cS s)) : (loadVar 25 ⟨b, 0, none⟩).run Tryd.prog w = .ok (.agg #[.int .i64 s.a, .int .i64 s.u, .int .i64 s.f0, .int .i64 s.f1, .int .i64 s.b0, .int .i64 s.b1, .int .i64 s.l0, .int .i64 s.l1]) w :=
  (run_loadVar_mid w b 0 25 (cS s) _ h.2.1 Tryd.underlying25 rfl (by kernel_rfl)).trans rfl
theorem load_styA (w : World) (b : Nat) (s : S8) (h : Box w b (cS s)) : (Instr.loadAt 25 (.pointer (some ⟨b, 0, none⟩))).run Tryd.prog w = .ok (.agg #[.int .i64 s.a, .int .i64 s.u, .int .i64 s.f0, .int .i64 s.f1, .int .i64 s.b0, .int .i64 s.b1, .int .i64 s.l0, .int .i64 s.l1]) w :=
  (run_loadAt_mid w b 0 25 (cS s) _ h.2.1 Tryd.underlying25 rfl (by kernel_rfl)).trans rfl
theorem runP_take (s : S8) (l : List P6) (k : Nat) (p : P6) (h : l[k]? = some p) (s' : S8) (hs : runP s (l.take k) = some s') : runP s (l.take (k + 1)) = if okP p then some (app s' p) else none := by
  have hl : l.take (k + 1) = l.take k ++ [p] := by
    rw [List.take_add_one, h]; rfl
  rw [hl]
  generalize l.take k = m at hs
  clear h hl
  induction m generalizing s with
  | nil => cases hs; rfl
  | cons x r ih =>
    unfold runP at hs
    split at hs
    · rename_i hx
      rw [List.cons_append, runP, if_pos hx]
      exact ih _ hs
    · cases hs
theorem runP_bad (s : S8) (l : List P6) (k : Nat) (h : runP s (l.take k) = none) : runP s l = none := by
  induction k generalizing s l with
  | zero => cases h
  | succ k ih =>
    cases l with
    | nil => cases h
    | cons x r =>
      rw [List.take_succ_cons] at h
      unfold runP at h ⊢
      split
      · rename_i hx
        rw [if_pos hx] at h
        exact ih _ _ h
      · rfl
theorem okP_n (p : P6) (h : okP p = true) : p.n = 0 ∨ p.n = 1 ∨ p.n = 2 ∨ p.n = 3 ∨ p.n = 4 ∨ p.n = 5 ∨ p.n = 6 := by
  have hf : fitP p.n p.m p.c0 p.c1 = true := by
    unfold okP at h
    simp only [Bool.and_eq_true] at h
    exact h.2.2
  by_cases hn : 0 ≤ p.n ∧ p.n ≤ 6
  · omega
  · rw [fit_no _ _ _ _ hn] at hf; cases hf
theorem cS_one (s : S8) : ∀ v ∈ cS s, v.oneCell' = true := by
  intro v hv
  simp [cS] at hv
  rcases hv with rfl | rfl | rfl | rfl | rfl | rfl | rfl | rfl <;> rfl
theorem store_sty (w : World) (b : Nat) (s t : S8) (h : Box w b (cS t)) : (Instr.storeAt 25 (.pointer (some ⟨b, 0, none⟩)) (.agg #[.int .i64 s.a, .int .i64 s.u, .int .i64 s.f0, .int .i64 s.f1, .int .i64 s.b0, .int .i64 s.b1, .int .i64 s.l0, .int .i64 s.l1])).run Tryd.prog w = .ok () (w.setCells b 0 (cS s)) :=
  (run_storeAt_mid w b 0 25 (cS s).toArray h.2.2 (by kernel_rfl) (all_oneCell_toArray (cS_one s))).trans rfl
theorem sizeCells (b : Nat) : ∀ (vs : List Value) (o : Nat) (w : World), (w.setCells b o vs).heap.size = w.heap.size
  | [], _, _ => rfl
  | v :: r, o, w => by rw [World.setCells, sizeCells b r]; simp
theorem Box.put {w : World} {b : Nat} {cs ds : List Value} (h : Box w b cs) (hl : ds.length = cs.length) : Box (w.setCells b 0 ds) b ds :=
  ⟨by rw [sizeCells]; exact h.1, World.rangeAt_setCells_same w b 0 ds (by rw [hl]; exact h.2.2), World.there_setCells (by rw [hl]; exact h.2.2) _ _ _⟩
theorem grown_put (b : Nat) : ∀ (vs : List Value) (o : Nat) (w : World), w.grownBy (w.setCells b o vs) (some b)
  | [], _, _ => ⟨rfl, rfl, rfl, Nat.le_refl _, fun _ _ _ => rfl⟩
  | v :: r, o, w => (grown_set w b o v).trans (grown_put b r (o + 1) _)
theorem below_grown {B : Nat} {a w w' : World} {b : Nat} (h : Below B a w) (hg : w.grownBy w' (some b)) (hb : B ≤ b) (hB : B ≤ w.heap.size) : Below B a w' := by
  refine ⟨hg.os.trans h.os, hg.tape.trans h.tape, hg.output.trans h.output, Nat.le_trans h.size hg.size, fun k hk => ?_⟩
  exact (hg.block k (Nat.lt_of_lt_of_le hk hB) (fun e => by injection e with e; omega)).trans (h.block k hk)
end Go.Proofs.YtokjjeekkfefmaaDoor.Sty
