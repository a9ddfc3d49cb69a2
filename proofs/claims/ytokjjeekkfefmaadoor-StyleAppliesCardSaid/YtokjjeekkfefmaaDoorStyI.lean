/-
  Contracts of the style package's Apply and of the laws' pen, fore, makes.
-/
import Derived.Test.YtokjjeekkfefmaaDoorStyH
namespace Go.Proofs.YtokjjeekkfefmaaDoor.Sty
open Go.RowKit Utf Col

def pnV (p : P6) : Value := .agg #[.int .i64 p.k, .int .i64 p.n, .int .i64 p.m, .int .i64 p.c0, .int .i64 p.c1, .string p.t]
/-- a slice of actions that the call lays -/
theorem RdP.of {w : World} {B : Nat} {cs : Array Value} {t : TypeId} {fr : Nat × Nat} (h : w.heap[B]? = some (.cells cs t fr)) (ps : List P6) (hc : ∀ j p, ps[j]? = some p → ∀ i v, (cP p)[i]? = some v → cs[j * 6 + i]? = some v) : RdP w (some ⟨B, 0, none⟩) ps := fun j p hp =>
  ⟨B, 0, rfl, (Array.getElem?_eq_some_iff.1 h).1, fun i v hv => by
    rw [Joins.cell_of_block h]
    rw [Nat.zero_add]
    exact hc j p hp i v hv⟩
theorem RdP.one (w : World) (p : P6) (t : TypeId) : RdP (w.alloc (.cells #[.int .i64 p.k, .int .i64 p.n, .int .i64 p.m, .int .i64 p.c0, .int .i64 p.c1, .string p.t] t)) (some ⟨w.heap.size, 0, none⟩) [p] :=
  RdP.of (heap_alloc_new w _) [p] fun j q hq i v hv => by
    cases j with
    | zero => cases hq; simpa [cP] using hv
    | succ j => simp at hq
theorem RdP.nil (w : World) (A : Option Addr) : RdP w A [] := fun j p hp => by simp at hp
theorem run_t (s : S8) (A : Option Addr) (ps : List P6) (n c : Nat) (hn : ps.length = n) (w : World) (h : Tl w) (hr : RdP w A ps) (hm : n ≤ 1000000) : Calls Tryd.prog 17 #[.agg #[.int .i64 s.a, .int .i64 s.u, .int .i64 s.f0, .int .i64 s.f1, .int .i64 s.b0, .int .i64 s.b1, .int .i64 s.l0, .int .i64 s.l1], .slice A n c] w fun e w' => e = .returned (.tuple #[.agg #[.int .i64 (runV s ps).a, .int .i64 (runV s ps).u, .int .i64 (runV s ps).f0, .int .i64 (runV s ps).f1, .int .i64 (runV s ps).b0, .int .i64 (runV s ps).b1, .int .i64 (runV s ps).l0, .int .i64 (runV s ps).l1], .int .i64 (runE s ps)]) ∧ Below w.heap.size w w' := by
  subst hn; exact run_any s A ps c w h hr hm
theorem alloc2_at (w : World) (o o' o'' : Obj) : (((w.alloc o).alloc o').alloc o'').heap[w.heap.size + 1 + 1]? = some o'' := by
  have := heap_alloc_new ((w.alloc o).alloc o') o''
  rwa [show ((w.alloc o).alloc o').heap.size = w.heap.size + 1 + 1 by simp] at this
theorem alloc3_at (w : World) (o o' o'' o3 : Obj) : ((((w.alloc o).alloc o').alloc o'').alloc o3).heap[w.heap.size + 1 + 1 + 1]? = some o3 := by
  have := heap_alloc_new (((w.alloc o).alloc o').alloc o'') o3
  rwa [show (((w.alloc o).alloc o').alloc o'').heap.size = w.heap.size + 1 + 1 + 1 by simp] at this
theorem load_act (w : World) (b : Nat) (p : P6) (h : w.rangeAt b 0 (cP p)) : (loadVar 27 ⟨b, 0, none⟩).run Tryd.prog w = .ok (.agg #[.int .i64 p.k, .int .i64 p.n, .int .i64 p.m, .int .i64 p.c0, .int .i64 p.c1, .string p.t]) w :=
  (run_loadVar_mid w b 0 27 (cP p) _ h Tryd.underlying27 rfl (by kernel_rfl)).trans rfl
set_option maxRecDepth 100000 in
set_option maxHeartbeats 1000000 in
theorem apply_any (s : S8) (p : P6) (w : World) (h : Tl w) : Calls Tryd.prog 19 #[stV s, pnV p] w fun e w' => e = .returned (runT s [p]) ∧ Below w.heap.size w w' := by
  have H := Lib.hid h; clear h
  unfold stV pnV
  go_enter Tryd.func19, Tryd.ntmps19
  go_wp2_with fail
  have hC0 : Box (((w.alloc (.cells #[.int .i64 s.a, .int .i64 s.u, .int .i64 s.f0, .int .i64 s.f1, .int .i64 s.b0, .int .i64 s.b1, .int .i64 s.l0, .int .i64 s.l1] 25)).alloc (.cells #[.int .i64 p.k, .int .i64 p.n, .int .i64 p.m, .int .i64 p.c0, .int .i64 p.c1, .string p.t] 27)).alloc (.cells #[.int .i64 0, .int .i64 0, .int .i64 0, .int .i64 0, .int .i64 0, .int .i64 0, .int .i64 0, .int .i64 0] 25)) (w.heap.size + 1 + 1) (cS z8) := Box.of (alloc2_at _ _ _ _)
  have hW0 : Below w.heap.size w (((w.alloc (.cells #[.int .i64 s.a, .int .i64 s.u, .int .i64 s.f0, .int .i64 s.f1, .int .i64 s.b0, .int .i64 s.b1, .int .i64 s.l0, .int .i64 s.l1] 25)).alloc (.cells #[.int .i64 p.k, .int .i64 p.n, .int .i64 p.m, .int .i64 p.c0, .int .i64 p.c1, .string p.t] 27)).alloc (.cells #[.int .i64 0, .int .i64 0, .int .i64 0, .int .i64 0, .int .i64 0, .int .i64 0, .int .i64 0, .int .i64 0] 25)) := ((below_box w _).alloc (by simp) _).alloc (by simp; omega) _
  have hz0 : (((w.alloc (.cells #[.int .i64 s.a, .int .i64 s.u, .int .i64 s.f0, .int .i64 s.f1, .int .i64 s.b0, .int .i64 s.b1, .int .i64 s.l0, .int .i64 s.l1] 25)).alloc (.cells #[.int .i64 p.k, .int .i64 p.n, .int .i64 p.m, .int .i64 p.c0, .int .i64 p.c1, .string p.t] 27)).alloc (.cells #[.int .i64 0, .int .i64 0, .int .i64 0, .int .i64 0, .int .i64 0, .int .i64 0, .int .i64 0, .int .i64 0] 25)).heap.size = w.heap.size + 1 + 1 + 1 := by simp
  generalize ((w.alloc (.cells #[.int .i64 s.a, .int .i64 s.u, .int .i64 s.f0, .int .i64 s.f1, .int .i64 s.b0, .int .i64 s.b1, .int .i64 s.l0, .int .i64 s.l1] 25)).alloc (.cells #[.int .i64 p.k, .int .i64 p.n, .int .i64 p.m, .int .i64 p.c0, .int .i64 p.c1, .string p.t] 27)).alloc (.cells #[.int .i64 0, .int .i64 0, .int .i64 0, .int .i64 0, .int .i64 0, .int .i64 0, .int .i64 0, .int .i64 0] 25) = w1 at hC0 hW0 hz0 ⊢
  have hR := RdP.one w1 p 27
  rw [hz0] at hR
  have hC1 := hC0.alloc (.cells #[.int .i64 p.k, .int .i64 p.n, .int .i64 p.m, .int .i64 p.c0, .int .i64 p.c1, .string p.t] 27)
  have hW1 := hW0.alloc (by omega) (.cells #[.int .i64 p.k, .int .i64 p.n, .int .i64 p.m, .int .i64 p.c0, .int .i64 p.c1, .string p.t] 27)
  generalize w1.alloc (.cells #[.int .i64 p.k, .int .i64 p.n, .int .i64 p.m, .int .i64 p.c0, .int .i64 p.c1, .string p.t] 27) = w2 at hR hC1 hW1 ⊢
  clear hC0 hW0 hz0
  refine (run_t s _ [p] 1 1 rfl _ ((H.out).keep hW1) hR (by omega)).mono ?_
  rintro e w3 ⟨rfl, hb3⟩
  have hC3 := hC1.keep hb3
  have hW3 := Lib.hid (hW1.trans (hb3.mono hW1.size))
  have hlC := hC3.1
  have xC0 := (hC3).cell 0 _ rfl
  have vC0 := (hC3).free 0 (by show 0 < 8; decide)
  have xC1 := (hC3).cell 1 _ rfl
  have vC1 := (hC3).free 1 (by show 1 < 8; decide)
  have xC2 := (hC3).cell 2 _ rfl
  have vC2 := (hC3).free 2 (by show 2 < 8; decide)
  have xC3 := (hC3).cell 3 _ rfl
  have vC3 := (hC3).free 3 (by show 3 < 8; decide)
  have xC4 := (hC3).cell 4 _ rfl
  have vC4 := (hC3).free 4 (by show 4 < 8; decide)
  have xC5 := (hC3).cell 5 _ rfl
  have vC5 := (hC3).free 5 (by show 5 < 8; decide)
  have xC6 := (hC3).cell 6 _ rfl
  have vC6 := (hC3).free 6 (by show 6 < 8; decide)
  have xC7 := (hC3).cell 7 _ rfl
  have vC7 := (hC3).free 7 (by show 7 < 8; decide)
  have HC := Lib.hid hC3
  have Hf := Lib.hid (show runT s [p] = .tuple #[stV (runV s [p]), .int .i64 (runE s [p])] from rfl)
  clear hC1 hC3 hW1 hb3 hR
  generalize runV s [p] = r at Hf ⊢
  generalize runE s [p] = x at Hf ⊢
  go_wp2
  refine bodyPost_ret (ret_cell rfl _ _ ⟨w.heap.size + 1 + 1, 0, none⟩ _ rfl (load_sty _ _ r (put8 w3 _ r z8 HC.out))) rfl ?_
  exact ⟨by rw [Hf.out]; rfl, below8 _ r hW3.out (by omega)⟩
theorem lpen_any (n m : Int) (w : World) : Calls Tryd.prog 25 #[.int .i64 n, .int .i64 m] w fun e w' => e = .returned (.agg #[.int .i64 39, .int .i64 n, .int .i64 m, .int .i64 0, .int .i64 0, .string ⟨#[]⟩]) ∧ Below w.heap.size w w' := by
  go_enter Tryd.func25, Tryd.ntmps25
  go_wp2
  refine bodyPost_ret (ret_cell1 rfl _ _ ⟨w.heap.size, 0, none⟩ _ rfl (load_act _ _ ⟨39, n, m, 0, 0, ⟨#[]⟩⟩ (Box.of (heap_alloc_new w _)).2.1)) rfl ?_
  exact ⟨rfl, below_box _ _⟩
theorem lfore_any (k n : Int) (w : World) : Calls Tryd.prog 27 #[.int .i64 k, .int .i64 n] w fun e w' => e = .returned (.agg #[.int .i64 39, .int .i64 4, .int .i64 0, .int .i64 k, .int .i64 n, .string ⟨#[]⟩]) ∧ Below w.heap.size w w' := by
  go_enter Tryd.func27, Tryd.ntmps27
  go_wp2
  refine bodyPost_ret (ret_cell1 rfl _ _ ⟨w.heap.size, 0, none⟩ _ rfl (load_act _ _ ⟨39, 4, 0, k, n, ⟨#[]⟩⟩ (Box.of (heap_alloc_new w _)).2.1)) rfl ?_
  exact ⟨rfl, below_box _ _⟩
set_option maxRecDepth 100000 in
set_option maxHeartbeats 1000000 in
theorem makes_yes (s t : S8) (A : Option Addr) (ps : List P6) (n c : Nat) (hn : ps.length = n) (hv : runV s ps = t) (he : runE s ps = 0) (w : World) (h : Tl w) (hr : RdP w A ps) (hm : n ≤ 1000000) :
    Calls Tryd.prog 26 #[.agg #[.int .i64 s.a, .int .i64 s.u, .int .i64 s.f0, .int .i64 s.f1, .int .i64 s.b0, .int .i64 s.b1, .int .i64 s.l0, .int .i64 s.l1], .agg #[.int .i64 t.a, .int .i64 t.u, .int .i64 t.f0, .int .i64 t.f1, .int .i64 t.b0, .int .i64 t.b1, .int .i64 t.l0, .int .i64 t.l1], .slice A n c] w fun e w' => e = .returned (.bool true) ∧ Below w.heap.size w w' := by
  have H := Lib.hid h; clear h
  have HR := Lib.hid hr; clear hr
  have Hv := Lib.hid hv; clear hv
  have He := Lib.hid he; clear he
  have e1 := fun W => eqlS t.a t.u t.f0 t.f1 t.b0 t.b1 t.l0 t.l1 t.a t.u t.f0 t.f1 t.b0 t.b1 t.l0 t.l1 W
  rw [eqS_self] at e1
  go_enter Tryd.func26, Tryd.ntmps26
  go_wp2_with fail
  have hT0 : Box ((w.alloc (.cells #[.int .i64 s.a, .int .i64 s.u, .int .i64 s.f0, .int .i64 s.f1, .int .i64 s.b0, .int .i64 s.b1, .int .i64 s.l0, .int .i64 s.l1] 25)).alloc (.cells #[.int .i64 t.a, .int .i64 t.u, .int .i64 t.f0, .int .i64 t.f1, .int .i64 t.b0, .int .i64 t.b1, .int .i64 t.l0, .int .i64 t.l1] 25)) (w.heap.size + 1) (cS t) := Box.of (alloc1_at _ _ _)
  have hW0 : Below w.heap.size w ((w.alloc (.cells #[.int .i64 s.a, .int .i64 s.u, .int .i64 s.f0, .int .i64 s.f1, .int .i64 s.b0, .int .i64 s.b1, .int .i64 s.l0, .int .i64 s.l1] 25)).alloc (.cells #[.int .i64 t.a, .int .i64 t.u, .int .i64 t.f0, .int .i64 t.f1, .int .i64 t.b0, .int .i64 t.b1, .int .i64 t.l0, .int .i64 t.l1] 25)) := (below_box w _).alloc (by simp) _
  generalize (w.alloc (.cells #[.int .i64 s.a, .int .i64 s.u, .int .i64 s.f0, .int .i64 s.f1, .int .i64 s.b0, .int .i64 s.b1, .int .i64 s.l0, .int .i64 s.l1] 25)).alloc (.cells #[.int .i64 t.a, .int .i64 t.u, .int .i64 t.f0, .int .i64 t.f1, .int .i64 t.b0, .int .i64 t.b1, .int .i64 t.l0, .int .i64 t.l1] 25) = w1 at hT0 hW0 ⊢
  refine (run_t s A ps n c hn _ ((H.out).keep hW0) ((HR.out).keep hW0) hm).mono ?_
  rw [Hv.out, He.out]
  rintro e w2 ⟨rfl, hb2⟩
  have hT2 := hT0.keep hb2
  have hW2 := Lib.hid (hW0.trans (hb2.mono hW0.size))
  have hlT := hT2.1
  have xT0 := (hT2).cell 0 _ rfl
  have xT1 := (hT2).cell 1 _ rfl
  have xT2 := (hT2).cell 2 _ rfl
  have xT3 := (hT2).cell 3 _ rfl
  have xT4 := (hT2).cell 4 _ rfl
  have xT5 := (hT2).cell 5 _ rfl
  have xT6 := (hT2).cell 6 _ rfl
  have xT7 := (hT2).cell 7 _ rfl
  clear hT0 hW0 hb2 hT2
  go_wp2
  go_ret
  exact ⟨rfl, hW2.out.alloc hW2.out.size _⟩
end Go.Proofs.YtokjjeekkfefmaaDoor.Sty
