/-
  Contracts of the style package's Inverse and Seen.
-/
import Derived.Test.YtokjjeekkfefmaaDoorStyC
namespace Go.Proofs.YtokjjeekkfefmaaDoor.Sty
open Go.RowKit Utf Col
theorem ret_cell1 {P : Program} {fn : Func} {p : Tmp} {ty : TypeId} (h : fn.results = #[.cell p ty]) (tmps : Array Value) (w : World) (a : Addr) (v : Value) (ha : tmps.getD p undef = .pointer (some a)) (hl : (loadVar ty a).run P w = .ok v w) :
    (results fn tmps).run P w = .ok v w := by
  have ha' : tmps[p]?.getD undef = .pointer (some a) := by simpa using ha
  simp only [results, h]
  simp [ha', asAddr, hl]
theorem ret_cell2 {P : Program} {fn : Func} {p q : Tmp} {ty tz : TypeId} (h : fn.results = #[.cell p ty, .cell q tz]) (tmps : Array Value) (w : World) (a b : Addr) (v u : Value) (ha : tmps.getD p undef = .pointer (some a)) (hb : tmps.getD q undef = .pointer (some b)) (hl : (loadVar ty a).run P w = .ok v w) (hm : (loadVar tz b).run P w = .ok u w) :
    (results fn tmps).run P w = .ok (.tuple #[v, u]) w := by
  have ha' : tmps[p]?.getD undef = .pointer (some a) := by simpa using ha
  have hb' : tmps[q]?.getD undef = .pointer (some b) := by simpa using hb
  simp only [results, h]
  simp [ha', hb', asAddr, hl, hm]
theorem load8 (a u f0 f1 b0 b1 l0 l1 : Int) (w : World) (B : Nat) (h : w.heap[B]? = some (.cells #[.int .i64 a, .int .i64 u, .int .i64 f0, .int .i64 f1, .int .i64 b0, .int .i64 b1, .int .i64 l0, .int .i64 l1] 25 (0, 0))) :
    (loadVar 25 ⟨B, 0, none⟩).run Tryd.prog w = .ok (styV a u f0 f1 b0 b1 l0 l1) w := 
  (run_loadVar_mid w B 0 25 [.int .i64 a, .int .i64 u, .int .i64 f0, .int .i64 f1, .int .i64 b0, .int .i64 b1, .int .i64 l0, .int .i64 l1] _ (World.rangeAt_of_block h 0 8) Tryd.underlying25 rfl (by kernel_rfl)).trans rfl
theorem alloc1_at (w : World) (o o' : Obj) : ((w.alloc o).alloc o').heap[w.heap.size + 1]? = some o' := by
  have := heap_alloc_new (w.alloc o) o'
  rwa [show (w.alloc o).heap.size = w.heap.size + 1 by simp] at this
theorem load_col (w : World) (B : Nat) (a b : Value) (h0 : w.cell? ⟨B, 0, none⟩ = some a) (h1 : w.cell? ⟨B, 1, none⟩ = some b) : (loadVar 23 ⟨B, 0, none⟩).run Tryd.prog w = .ok (.agg #[a, b]) w := by
  go_simp
set_option maxRecDepth 100000 in
theorem inverse_any (a u f0 f1 b0 b1 l0 l1 : Int) (w : World) : Calls Tryd.prog 23 #[styV a u f0 f1 b0 b1 l0 l1] w fun e w' =>
    e = .returned (styV (bits .xor .i64 a 16) u f0 f1 b0 b1 l0 l1) ∧ Below w.heap.size w w' := by
  unfold styV
  go_enter Tryd.func23, Tryd.ntmps23
  go_wp2
  refine bodyPost_ret (ret_cell1 rfl _ _ ⟨w.heap.size + 1, 0, none⟩ _ rfl (load8 _ _ _ _ _ _ _ _ _ _ (alloc1_at _ _ _))) rfl ?_
  exact ⟨rfl, (below_box _ _).alloc (by simp) _⟩
def seenV (x : Int × Int × Int × Int) : Value := .tuple #[.agg #[.int .i64 x.1, .int .i64 x.2.1], .agg #[.int .i64 x.2.2.1, .int .i64 x.2.2.2]]
set_option maxRecDepth 100000 in
set_option maxHeartbeats 1000000 in
theorem seen_any (a u f0 f1 b0 b1 l0 l1 : Int) (w : World) : Calls Tryd.prog 21 #[styV a u f0 f1 b0 b1 l0 l1] w fun e w' =>
    e = .returned (seenV (seen ⟨a, u, f0, f1, b0, b1, l0, l1⟩)) ∧ Below w.heap.size w w' := by
  have Hs := Lib.hid (show seen ⟨a, u, f0, f1, b0, b1, l0, l1⟩ = (if bits .and .i64 a 32 != 0 then ((if bits .and .i64 a 16 != 0 then (b0, b1, f0, f1) else (f0, f1, b0, b1)).2.2.1, (if bits .and .i64 a 16 != 0 then (b0, b1, f0, f1) else (f0, f1, b0, b1)).2.2.2, (if bits .and .i64 a 16 != 0 then (b0, b1, f0, f1) else (f0, f1, b0, b1)).2.2.1, (if bits .and .i64 a 16 != 0 then (b0, b1, f0, f1) else (f0, f1, b0, b1)).2.2.2) else (if bits .and .i64 a 16 != 0 then (b0, b1, f0, f1) else (f0, f1, b0, b1))) from rfl)
  unfold styV
  obtain ⟨x, hx⟩ : ∃ x, (bits .and .i64 a 16 != 0) = x := ⟨_, rfl⟩
  obtain ⟨y, hy⟩ : ∃ y, (bits .and .i64 a 32 != 0) = y := ⟨_, rfl⟩
  rw [hx, hy] at Hs
  cases x <;> cases y
  all_goals
    go_enter Tryd.func21, Tryd.ntmps21
    go_wp2_with fail
    go_region
    go_wp2_with fail
    go_region
    go_wp2
    refine bodyPost_ret (ret_cell2 rfl _ _ ⟨w.heap.size + 1, 0, none⟩ ⟨w.heap.size + 1 + 1, 0, none⟩ _ _ rfl rfl (load_col _ _ _ _ (by go_simp; rfl) (by go_simp; rfl)) (load_col _ _ _ _ (by go_simp; rfl) (by go_simp; rfl))) rfl ?_
    exact ⟨by rw [Hs.out]; rfl, ((((below_box _ _).alloc (by simp) _).alloc (by simp; omega) _).drew).drew⟩
end Go.Proofs.YtokjjeekkfefmaaDoor.Sty
