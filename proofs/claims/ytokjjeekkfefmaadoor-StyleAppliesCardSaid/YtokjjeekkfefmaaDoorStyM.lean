/-
  Contracts of the reference's Inverse, Seen, Pen of layer 4.
-/
import Derived.Test.YtokjjeekkfefmaaDoorStyL
namespace Go.Proofs.YtokjjeekkfefmaaDoor.Sty
open Go.RowKit Utf Col

set_option maxRecDepth 100000 in
theorem rinverse_is (a u f0 f1 b0 b1 l0 l1 x : Int) (hx : bits .xor .i64 a 16 = x) (w : World) : Calls Tryd.prog 24 #[.agg #[.int .i64 a, .int .i64 u, .int .i64 f0, .int .i64 f1, .int .i64 b0, .int .i64 b1, .int .i64 l0, .int .i64 l1]] w fun e w' =>
    e = .returned (.agg #[.int .i64 x, .int .i64 u, .int .i64 f0, .int .i64 f1, .int .i64 b0, .int .i64 b1, .int .i64 l0, .int .i64 l1]) ∧ Below w.heap.size w w' := by
  obtain ⟨y, hy⟩ : ∃ y, (bits .and .i64 a 16 != 0) = y := ⟨_, rfl⟩
  cases y
  · have Hx := Lib.hid (show wrap64 (a + 16) = x by rw [← hx, xor_plus a hy, IntWalk.i64_left])
    clear hx
    go_enter Tryd.func24, Tryd.ntmps24
    go_wp2
    rw [Hx.out]
    refine bodyPost_ret (ret_cell1 rfl _ _ ⟨w.heap.size + 1, 0, none⟩ _ rfl (load8 _ _ _ _ _ _ _ _ _ _ (alloc1_at _ _ _))) rfl ?_
    exact ⟨rfl, two_boxes _ _ _⟩
  · have Hx := Lib.hid (show wrap64 (a - 16) = x by rw [← hx, xor_minus a hy, IntWalk.i64_left])
    clear hx
    go_enter Tryd.func24, Tryd.ntmps24
    go_wp2
    rw [Hx.out]
    refine bodyPost_ret (ret_cell1 rfl _ _ ⟨w.heap.size + 1, 0, none⟩ _ rfl (load8 _ _ _ _ _ _ _ _ _ _ (alloc1_at _ _ _))) rfl ?_
    exact ⟨rfl, two_boxes _ _ _⟩
set_option maxRecDepth 100000 in
set_option maxHeartbeats 1000000 in
theorem rseen_any (a u f0 f1 b0 b1 l0 l1 : Int) (w : World) : Calls Tryd.prog 22 #[styV a u f0 f1 b0 b1 l0 l1] w fun e w' =>
    e = .returned (seenV (seen ⟨a, u, f0, f1, b0, b1, l0, l1⟩)) ∧ Below w.heap.size w w' := by
  have Hs := Lib.hid (show seen ⟨a, u, f0, f1, b0, b1, l0, l1⟩ = (if bits .and .i64 a 32 != 0 then ((if bits .and .i64 a 16 != 0 then (b0, b1, f0, f1) else (f0, f1, b0, b1)).2.2.1, (if bits .and .i64 a 16 != 0 then (b0, b1, f0, f1) else (f0, f1, b0, b1)).2.2.2, (if bits .and .i64 a 16 != 0 then (b0, b1, f0, f1) else (f0, f1, b0, b1)).2.2.1, (if bits .and .i64 a 16 != 0 then (b0, b1, f0, f1) else (f0, f1, b0, b1)).2.2.2) else (if bits .and .i64 a 16 != 0 then (b0, b1, f0, f1) else (f0, f1, b0, b1))) from rfl)
  unfold styV
  obtain ⟨x, hx⟩ : ∃ x, (bits .and .i64 a 16 != 0) = x := ⟨_, rfl⟩
  obtain ⟨y, hy⟩ : ∃ y, (bits .and .i64 a 32 != 0) = y := ⟨_, rfl⟩
  rw [hx, hy] at Hs
  cases x <;> cases y
  all_goals
    go_enter Tryd.func22, Tryd.ntmps22
    go_wp2_with fail
    go_region
    all_goals
      go_wp2_with fail
      go_region
      all_goals
        go_wp2
        refine bodyPost_ret (ret_cell2 rfl _ _ ⟨w.heap.size + 1, 0, none⟩ ⟨w.heap.size + 1 + 1, 0, none⟩ _ _ rfl rfl (load_col _ _ _ _ (by go_simp; rfl) (by go_simp; rfl)) (load_col _ _ _ _ (by go_simp; rfl) (by go_simp; rfl))) rfl ?_
        exact ⟨by rw [Hs.out]; rfl, ((((((below_box _ _).alloc (by simp) _).alloc (by simp; omega) _).alloc (by simp; omega) _).alloc (by simp; omega) _).drew).drew⟩
theorem rcheckPen_is (p : P6) (r : Int) (hr : errP p = r) (w : World) : Calls Tryd.prog 15 #[.agg #[.int .i64 p.k, .int .i64 p.n, .int .i64 p.m, .int .i64 p.c0, .int .i64 p.c1, .string p.t]] w fun e w' => e = .returned (.int .i64 r) ∧ Below w.heap.size w w' := by
  subst hr; exact rcheckPen_any p.k p.n p.m p.c0 p.c1 p.t w
/-- clearing bits is taking them away -/
theorem clear_all : ∀ a : Fin 256, ∀ m ∈ ([3, 4, 8, 16, 32, 64, 128] : List Int), wrap64 ((a.val : Int) - bits .and .i64 (a.val : Int) m) = bits .andNot .i64 (a.val : Int) m := by decide +kernel
theorem clear_is (a m : Int) (h0 : 0 ≤ a) (h1 : a ≤ 255) (hm : m = 3 ∨ m = 4 ∨ m = 8 ∨ m = 16 ∨ m = 32 ∨ m = 64 ∨ m = 128) : wrap64 (a - bits .and .i64 a m) = bits .andNot .i64 a m := by
  have := clear_all ⟨a.toNat, by omega⟩ m (by rcases hm with rfl | rfl | rfl | rfl | rfl | rfl | rfl <;> simp)
  simpa [Int.toNat_of_nonneg h0] using this
theorem okP_fit (p : P6) (h : okP p = true) : fitP p.n p.m p.c0 p.c1 = true := by
  unfold okP at h
  simp only [Bool.and_eq_true] at h
  exact h.2.2
theorem fit_clear (m c0 c1 : Int) (h : fitP 2 m c0 c1 = true) : m = 3 ∨ m = 4 ∨ m = 8 ∨ m = 16 ∨ m = 32 ∨ m = 64 ∨ m = 128 := by
  rw [fit2] at h
  simp only [Bool.and_eq_true, Bool.or_eq_true, beq_iff_eq, bne_iff_ne, attr, decide_eq_true_eq] at h
  omega
set_option maxRecDepth 100000 in
set_option maxHeartbeats 2000000 in
theorem rpen0 (s : S8) (pk pm pc pd : Int) (pt : ByteArray) (He : Hid (errP ⟨pk, 0, pm, pc, pd, pt⟩ = 0)) (w : World) : Calls Tryd.prog 35 #[.agg #[.int .i64 s.a, .int .i64 s.u, .int .i64 s.f0, .int .i64 s.f1, .int .i64 s.b0, .int .i64 s.b1, .int .i64 s.l0, .int .i64 s.l1], .agg #[.int .i64 pk, .int .i64 0, .int .i64 pm, .int .i64 pc, .int .i64 pd, .string pt]] w fun e w' => e = .returned (stV ⟨0, 0, 0, 0, 0, 0, 0, 0⟩) ∧ Below w.heap.size w w' := by
    go_enter Tryd.func35, Tryd.ntmps35
    go_wp2_with fail
    have hS0 : Box (((w.alloc (.cells #[.int .i64 s.a, .int .i64 s.u, .int .i64 s.f0, .int .i64 s.f1, .int .i64 s.b0, .int .i64 s.b1, .int .i64 s.l0, .int .i64 s.l1] 25)).alloc (.cells #[.int .i64 pk, .int .i64 0, .int .i64 pm, .int .i64 pc, .int .i64 pd, .string pt] 27)).alloc (.cells #[.int .i64 0, .int .i64 0, .int .i64 0, .int .i64 0, .int .i64 0, .int .i64 0, .int .i64 0, .int .i64 0] 25)) w.heap.size (cS s) := ((Box.new _ _ _).alloc _).alloc _
    have hP0 : Box (((w.alloc (.cells #[.int .i64 s.a, .int .i64 s.u, .int .i64 s.f0, .int .i64 s.f1, .int .i64 s.b0, .int .i64 s.b1, .int .i64 s.l0, .int .i64 s.l1] 25)).alloc (.cells #[.int .i64 pk, .int .i64 0, .int .i64 pm, .int .i64 pc, .int .i64 pd, .string pt] 27)).alloc (.cells #[.int .i64 0, .int .i64 0, .int .i64 0, .int .i64 0, .int .i64 0, .int .i64 0, .int .i64 0, .int .i64 0] 25)) (w.heap.size + 1) (cP ⟨pk, 0, pm, pc, pd, pt⟩) := (Box.of (alloc1_at _ _ _)).alloc _
    have hZ0 : Box (((w.alloc (.cells #[.int .i64 s.a, .int .i64 s.u, .int .i64 s.f0, .int .i64 s.f1, .int .i64 s.b0, .int .i64 s.b1, .int .i64 s.l0, .int .i64 s.l1] 25)).alloc (.cells #[.int .i64 pk, .int .i64 0, .int .i64 pm, .int .i64 pc, .int .i64 pd, .string pt] 27)).alloc (.cells #[.int .i64 0, .int .i64 0, .int .i64 0, .int .i64 0, .int .i64 0, .int .i64 0, .int .i64 0, .int .i64 0] 25)) (w.heap.size + 1 + 1) (cS z8) := Box.of (alloc2_at _ _ _ _)
    have hW0 : Below w.heap.size w (((w.alloc (.cells #[.int .i64 s.a, .int .i64 s.u, .int .i64 s.f0, .int .i64 s.f1, .int .i64 s.b0, .int .i64 s.b1, .int .i64 s.l0, .int .i64 s.l1] 25)).alloc (.cells #[.int .i64 pk, .int .i64 0, .int .i64 pm, .int .i64 pc, .int .i64 pd, .string pt] 27)).alloc (.cells #[.int .i64 0, .int .i64 0, .int .i64 0, .int .i64 0, .int .i64 0, .int .i64 0, .int .i64 0, .int .i64 0] 25)) := (two_boxes w _ _).alloc (by simp; omega) _
    generalize ((w.alloc (.cells #[.int .i64 s.a, .int .i64 s.u, .int .i64 s.f0, .int .i64 s.f1, .int .i64 s.b0, .int .i64 s.b1, .int .i64 s.l0, .int .i64 s.l1] 25)).alloc (.cells #[.int .i64 pk, .int .i64 0, .int .i64 pm, .int .i64 pc, .int .i64 pd, .string pt] 27)).alloc (.cells #[.int .i64 0, .int .i64 0, .int .i64 0, .int .i64 0, .int .i64 0, .int .i64 0, .int .i64 0, .int .i64 0] 25) = w1 at hS0 hP0 hZ0 hW0 ⊢
    refine (rcheckPen_is ⟨pk, 0, pm, pc, pd, pt⟩ 0 He.out _).mono ?_
    rintro e w2 ⟨rfl, hb2⟩
    have hS := hS0.keep hb2
    have hP := hP0.keep hb2
    have hZ := hZ0.keep hb2
    have HW := Lib.hid (hW0.trans (hb2.mono hW0.size))
    clear hS0 hP0 hZ0 hW0 hb2
    have lS := hS.1
    have lP := hP.1
    have lZ := hZ.1
    have x0 := hS.cell 0 _ rfl
    have v0 := hS.free 0 (by show 0 < 8; decide)
    have x1 := hS.cell 1 _ rfl
    have v1 := hS.free 1 (by show 1 < 8; decide)
    have x2 := hS.cell 2 _ rfl
    have v2 := hS.free 2 (by show 2 < 8; decide)
    have x3 := hS.cell 3 _ rfl
    have v3 := hS.free 3 (by show 3 < 8; decide)
    have x4 := hS.cell 4 _ rfl
    have v4 := hS.free 4 (by show 4 < 8; decide)
    have x5 := hS.cell 5 _ rfl
    have v5 := hS.free 5 (by show 5 < 8; decide)
    have x6 := hS.cell 6 _ rfl
    have v6 := hS.free 6 (by show 6 < 8; decide)
    have x7 := hS.cell 7 _ rfl
    have v7 := hS.free 7 (by show 7 < 8; decide)
    have y0 := hP.cell 0 _ rfl
    have y1 := hP.cell 1 _ rfl
    have y2 := hP.cell 2 _ rfl
    have y3 := hP.cell 3 _ rfl
    have y4 := hP.cell 4 _ rfl
    have y5 := hP.cell 5 _ rfl
    have z0 := hZ.cell 0 _ rfl
    have k0 := hZ.free 0 (by show 0 < 8; decide)
    have z1 := hZ.cell 1 _ rfl
    have k1 := hZ.free 1 (by show 1 < 8; decide)
    have z2 := hZ.cell 2 _ rfl
    have k2 := hZ.free 2 (by show 2 < 8; decide)
    have z3 := hZ.cell 3 _ rfl
    have k3 := hZ.free 3 (by show 3 < 8; decide)
    have z4 := hZ.cell 4 _ rfl
    have k4 := hZ.free 4 (by show 4 < 8; decide)
    have z5 := hZ.cell 5 _ rfl
    have k5 := hZ.free 5 (by show 5 < 8; decide)
    have z6 := hZ.cell 6 _ rfl
    have k6 := hZ.free 6 (by show 6 < 8; decide)
    have z7 := hZ.cell 7 _ rfl
    have k7 := hZ.free 7 (by show 7 < 8; decide)
    have HZ := Lib.hid hZ
    have HS := Lib.hid hS
    clear hS hP hZ
    go_wp2
    refine bodyPost_ret (ret_cell1 rfl _ _ ⟨w.heap.size + 1 + 1, 0, none⟩ _ rfl (load_sty _ _ ⟨0, 0, 0, 0, 0, 0, 0, 0⟩ (put8 _ _ ⟨0, 0, 0, 0, 0, 0, 0, 0⟩ z8 HZ.out))) rfl ?_
    exact ⟨rfl, below8 _ ⟨0, 0, 0, 0, 0, 0, 0, 0⟩ HW.out (by omega)⟩
set_option maxRecDepth 100000 in
set_option maxHeartbeats 2000000 in
theorem rpen1 (s : S8) (pk pm pc pd : Int) (pt : ByteArray) (He : Hid (errP ⟨pk, 1, pm, pc, pd, pt⟩ = 0)) (w : World) : Calls Tryd.prog 35 #[.agg #[.int .i64 s.a, .int .i64 s.u, .int .i64 s.f0, .int .i64 s.f1, .int .i64 s.b0, .int .i64 s.b1, .int .i64 s.l0, .int .i64 s.l1], .agg #[.int .i64 pk, .int .i64 1, .int .i64 pm, .int .i64 pc, .int .i64 pd, .string pt]] w fun e w' => e = .returned (stV ⟨bits .or .i64 s.a pm, s.u, s.f0, s.f1, s.b0, s.b1, s.l0, s.l1⟩) ∧ Below w.heap.size w w' := by
    go_enter Tryd.func35, Tryd.ntmps35
    go_wp2_with fail
    have hS0 : Box (((w.alloc (.cells #[.int .i64 s.a, .int .i64 s.u, .int .i64 s.f0, .int .i64 s.f1, .int .i64 s.b0, .int .i64 s.b1, .int .i64 s.l0, .int .i64 s.l1] 25)).alloc (.cells #[.int .i64 pk, .int .i64 1, .int .i64 pm, .int .i64 pc, .int .i64 pd, .string pt] 27)).alloc (.cells #[.int .i64 0, .int .i64 0, .int .i64 0, .int .i64 0, .int .i64 0, .int .i64 0, .int .i64 0, .int .i64 0] 25)) w.heap.size (cS s) := ((Box.new _ _ _).alloc _).alloc _
    have hP0 : Box (((w.alloc (.cells #[.int .i64 s.a, .int .i64 s.u, .int .i64 s.f0, .int .i64 s.f1, .int .i64 s.b0, .int .i64 s.b1, .int .i64 s.l0, .int .i64 s.l1] 25)).alloc (.cells #[.int .i64 pk, .int .i64 1, .int .i64 pm, .int .i64 pc, .int .i64 pd, .string pt] 27)).alloc (.cells #[.int .i64 0, .int .i64 0, .int .i64 0, .int .i64 0, .int .i64 0, .int .i64 0, .int .i64 0, .int .i64 0] 25)) (w.heap.size + 1) (cP ⟨pk, 1, pm, pc, pd, pt⟩) := (Box.of (alloc1_at _ _ _)).alloc _
    have hZ0 : Box (((w.alloc (.cells #[.int .i64 s.a, .int .i64 s.u, .int .i64 s.f0, .int .i64 s.f1, .int .i64 s.b0, .int .i64 s.b1, .int .i64 s.l0, .int .i64 s.l1] 25)).alloc (.cells #[.int .i64 pk, .int .i64 1, .int .i64 pm, .int .i64 pc, .int .i64 pd, .string pt] 27)).alloc (.cells #[.int .i64 0, .int .i64 0, .int .i64 0, .int .i64 0, .int .i64 0, .int .i64 0, .int .i64 0, .int .i64 0] 25)) (w.heap.size + 1 + 1) (cS z8) := Box.of (alloc2_at _ _ _ _)
    have hW0 : Below w.heap.size w (((w.alloc (.cells #[.int .i64 s.a, .int .i64 s.u, .int .i64 s.f0, .int .i64 s.f1, .int .i64 s.b0, .int .i64 s.b1, .int .i64 s.l0, .int .i64 s.l1] 25)).alloc (.cells #[.int .i64 pk, .int .i64 1, .int .i64 pm, .int .i64 pc, .int .i64 pd, .string pt] 27)).alloc (.cells #[.int .i64 0, .int .i64 0, .int .i64 0, .int .i64 0, .int .i64 0, .int .i64 0, .int .i64 0, .int .i64 0] 25)) := (two_boxes w _ _).alloc (by simp; omega) _
    generalize ((w.alloc (.cells #[.int .i64 s.a, .int .i64 s.u, .int .i64 s.f0, .int .i64 s.f1, .int .i64 s.b0, .int .i64 s.b1, .int .i64 s.l0, .int .i64 s.l1] 25)).alloc (.cells #[.int .i64 pk, .int .i64 1, .int .i64 pm, .int .i64 pc, .int .i64 pd, .string pt] 27)).alloc (.cells #[.int .i64 0, .int .i64 0, .int .i64 0, .int .i64 0, .int .i64 0, .int .i64 0, .int .i64 0, .int .i64 0] 25) = w1 at hS0 hP0 hZ0 hW0 ⊢
    refine (rcheckPen_is ⟨pk, 1, pm, pc, pd, pt⟩ 0 He.out _).mono ?_
    rintro e w2 ⟨rfl, hb2⟩
    have hS := hS0.keep hb2
    have hP := hP0.keep hb2
    have hZ := hZ0.keep hb2
    have HW := Lib.hid (hW0.trans (hb2.mono hW0.size))
    clear hS0 hP0 hZ0 hW0 hb2
    have lS := hS.1
    have lP := hP.1
    have lZ := hZ.1
    have x0 := hS.cell 0 _ rfl
    have v0 := hS.free 0 (by show 0 < 8; decide)
    have x1 := hS.cell 1 _ rfl
    have v1 := hS.free 1 (by show 1 < 8; decide)
    have x2 := hS.cell 2 _ rfl
    have v2 := hS.free 2 (by show 2 < 8; decide)
    have x3 := hS.cell 3 _ rfl
    have v3 := hS.free 3 (by show 3 < 8; decide)
    have x4 := hS.cell 4 _ rfl
    have v4 := hS.free 4 (by show 4 < 8; decide)
    have x5 := hS.cell 5 _ rfl
    have v5 := hS.free 5 (by show 5 < 8; decide)
    have x6 := hS.cell 6 _ rfl
    have v6 := hS.free 6 (by show 6 < 8; decide)
    have x7 := hS.cell 7 _ rfl
    have v7 := hS.free 7 (by show 7 < 8; decide)
    have y0 := hP.cell 0 _ rfl
    have y1 := hP.cell 1 _ rfl
    have y2 := hP.cell 2 _ rfl
    have y3 := hP.cell 3 _ rfl
    have y4 := hP.cell 4 _ rfl
    have y5 := hP.cell 5 _ rfl
    have z0 := hZ.cell 0 _ rfl
    have k0 := hZ.free 0 (by show 0 < 8; decide)
    have z1 := hZ.cell 1 _ rfl
    have k1 := hZ.free 1 (by show 1 < 8; decide)
    have z2 := hZ.cell 2 _ rfl
    have k2 := hZ.free 2 (by show 2 < 8; decide)
    have z3 := hZ.cell 3 _ rfl
    have k3 := hZ.free 3 (by show 3 < 8; decide)
    have z4 := hZ.cell 4 _ rfl
    have k4 := hZ.free 4 (by show 4 < 8; decide)
    have z5 := hZ.cell 5 _ rfl
    have k5 := hZ.free 5 (by show 5 < 8; decide)
    have z6 := hZ.cell 6 _ rfl
    have k6 := hZ.free 6 (by show 6 < 8; decide)
    have z7 := hZ.cell 7 _ rfl
    have k7 := hZ.free 7 (by show 7 < 8; decide)
    have HZ := Lib.hid hZ
    have HS := Lib.hid hS
    clear hS hP hZ
    go_wp2
    refine bodyPost_ret (ret_cell1 rfl _ _ ⟨w.heap.size + 1 + 1, 0, none⟩ _ rfl (load_sty _ _ ⟨bits .or .i64 s.a pm, s.u, s.f0, s.f1, s.b0, s.b1, s.l0, s.l1⟩ (put8 _ _ ⟨bits .or .i64 s.a pm, s.u, s.f0, s.f1, s.b0, s.b1, s.l0, s.l1⟩ z8 (HZ.out.grown (grown_set _ w.heap.size 0 _) (by simp; omega))))) rfl ?_
    exact ⟨rfl, below8 _ ⟨bits .or .i64 s.a pm, s.u, s.f0, s.f1, s.b0, s.b1, s.l0, s.l1⟩ (HW.out.setCell (p := ⟨w.heap.size, 0, none⟩) (Nat.le_refl _) _) (by omega)⟩
set_option maxRecDepth 100000 in
set_option maxHeartbeats 2000000 in
theorem rpen2 (s : S8) (pk pm pc pd : Int) (pt : ByteArray) (He : Hid (errP ⟨pk, 2, pm, pc, pd, pt⟩ = 0)) (hf : fitP 2 pm pc pd = true) (ha : 0 ≤ s.a) (hb : s.a ≤ 255) (w : World) : Calls Tryd.prog 35 #[.agg #[.int .i64 s.a, .int .i64 s.u, .int .i64 s.f0, .int .i64 s.f1, .int .i64 s.b0, .int .i64 s.b1, .int .i64 s.l0, .int .i64 s.l1], .agg #[.int .i64 pk, .int .i64 2, .int .i64 pm, .int .i64 pc, .int .i64 pd, .string pt]] w fun e w' => e = .returned (stV ⟨bits .andNot .i64 s.a pm, s.u, s.f0, s.f1, s.b0, s.b1, s.l0, s.l1⟩) ∧ Below w.heap.size w w' := by
    have hc := Lib.hid (clear_is s.a pm ha hb (fit_clear pm pc pd hf))
    clear hf ha hb
    go_enter Tryd.func35, Tryd.ntmps35
    go_wp2_with fail
    have hS0 : Box (((w.alloc (.cells #[.int .i64 s.a, .int .i64 s.u, .int .i64 s.f0, .int .i64 s.f1, .int .i64 s.b0, .int .i64 s.b1, .int .i64 s.l0, .int .i64 s.l1] 25)).alloc (.cells #[.int .i64 pk, .int .i64 2, .int .i64 pm, .int .i64 pc, .int .i64 pd, .string pt] 27)).alloc (.cells #[.int .i64 0, .int .i64 0, .int .i64 0, .int .i64 0, .int .i64 0, .int .i64 0, .int .i64 0, .int .i64 0] 25)) w.heap.size (cS s) := ((Box.new _ _ _).alloc _).alloc _
    have hP0 : Box (((w.alloc (.cells #[.int .i64 s.a, .int .i64 s.u, .int .i64 s.f0, .int .i64 s.f1, .int .i64 s.b0, .int .i64 s.b1, .int .i64 s.l0, .int .i64 s.l1] 25)).alloc (.cells #[.int .i64 pk, .int .i64 2, .int .i64 pm, .int .i64 pc, .int .i64 pd, .string pt] 27)).alloc (.cells #[.int .i64 0, .int .i64 0, .int .i64 0, .int .i64 0, .int .i64 0, .int .i64 0, .int .i64 0, .int .i64 0] 25)) (w.heap.size + 1) (cP ⟨pk, 2, pm, pc, pd, pt⟩) := (Box.of (alloc1_at _ _ _)).alloc _
    have hZ0 : Box (((w.alloc (.cells #[.int .i64 s.a, .int .i64 s.u, .int .i64 s.f0, .int .i64 s.f1, .int .i64 s.b0, .int .i64 s.b1, .int .i64 s.l0, .int .i64 s.l1] 25)).alloc (.cells #[.int .i64 pk, .int .i64 2, .int .i64 pm, .int .i64 pc, .int .i64 pd, .string pt] 27)).alloc (.cells #[.int .i64 0, .int .i64 0, .int .i64 0, .int .i64 0, .int .i64 0, .int .i64 0, .int .i64 0, .int .i64 0] 25)) (w.heap.size + 1 + 1) (cS z8) := Box.of (alloc2_at _ _ _ _)
    have hW0 : Below w.heap.size w (((w.alloc (.cells #[.int .i64 s.a, .int .i64 s.u, .int .i64 s.f0, .int .i64 s.f1, .int .i64 s.b0, .int .i64 s.b1, .int .i64 s.l0, .int .i64 s.l1] 25)).alloc (.cells #[.int .i64 pk, .int .i64 2, .int .i64 pm, .int .i64 pc, .int .i64 pd, .string pt] 27)).alloc (.cells #[.int .i64 0, .int .i64 0, .int .i64 0, .int .i64 0, .int .i64 0, .int .i64 0, .int .i64 0, .int .i64 0] 25)) := (two_boxes w _ _).alloc (by simp; omega) _
    generalize ((w.alloc (.cells #[.int .i64 s.a, .int .i64 s.u, .int .i64 s.f0, .int .i64 s.f1, .int .i64 s.b0, .int .i64 s.b1, .int .i64 s.l0, .int .i64 s.l1] 25)).alloc (.cells #[.int .i64 pk, .int .i64 2, .int .i64 pm, .int .i64 pc, .int .i64 pd, .string pt] 27)).alloc (.cells #[.int .i64 0, .int .i64 0, .int .i64 0, .int .i64 0, .int .i64 0, .int .i64 0, .int .i64 0, .int .i64 0] 25) = w1 at hS0 hP0 hZ0 hW0 ⊢
    refine (rcheckPen_is ⟨pk, 2, pm, pc, pd, pt⟩ 0 He.out _).mono ?_
    rintro e w2 ⟨rfl, hb2⟩
    have hS := hS0.keep hb2
    have hP := hP0.keep hb2
    have hZ := hZ0.keep hb2
    have HW := Lib.hid (hW0.trans (hb2.mono hW0.size))
    clear hS0 hP0 hZ0 hW0 hb2
    have lS := hS.1
    have lP := hP.1
    have lZ := hZ.1
    have x0 := hS.cell 0 _ rfl
    have v0 := hS.free 0 (by show 0 < 8; decide)
    have x1 := hS.cell 1 _ rfl
    have v1 := hS.free 1 (by show 1 < 8; decide)
    have x2 := hS.cell 2 _ rfl
    have v2 := hS.free 2 (by show 2 < 8; decide)
    have x3 := hS.cell 3 _ rfl
    have v3 := hS.free 3 (by show 3 < 8; decide)
    have x4 := hS.cell 4 _ rfl
    have v4 := hS.free 4 (by show 4 < 8; decide)
    have x5 := hS.cell 5 _ rfl
    have v5 := hS.free 5 (by show 5 < 8; decide)
    have x6 := hS.cell 6 _ rfl
    have v6 := hS.free 6 (by show 6 < 8; decide)
    have x7 := hS.cell 7 _ rfl
    have v7 := hS.free 7 (by show 7 < 8; decide)
    have y0 := hP.cell 0 _ rfl
    have y1 := hP.cell 1 _ rfl
    have y2 := hP.cell 2 _ rfl
    have y3 := hP.cell 3 _ rfl
    have y4 := hP.cell 4 _ rfl
    have y5 := hP.cell 5 _ rfl
    have z0 := hZ.cell 0 _ rfl
    have k0 := hZ.free 0 (by show 0 < 8; decide)
    have z1 := hZ.cell 1 _ rfl
    have k1 := hZ.free 1 (by show 1 < 8; decide)
    have z2 := hZ.cell 2 _ rfl
    have k2 := hZ.free 2 (by show 2 < 8; decide)
    have z3 := hZ.cell 3 _ rfl
    have k3 := hZ.free 3 (by show 3 < 8; decide)
    have z4 := hZ.cell 4 _ rfl
    have k4 := hZ.free 4 (by show 4 < 8; decide)
    have z5 := hZ.cell 5 _ rfl
    have k5 := hZ.free 5 (by show 5 < 8; decide)
    have z6 := hZ.cell 6 _ rfl
    have k6 := hZ.free 6 (by show 6 < 8; decide)
    have z7 := hZ.cell 7 _ rfl
    have k7 := hZ.free 7 (by show 7 < 8; decide)
    have HZ := Lib.hid hZ
    have HS := Lib.hid hS
    clear hS hP hZ
    go_wp2
    rw [hc.out]
    refine bodyPost_ret (ret_cell1 rfl _ _ ⟨w.heap.size + 1 + 1, 0, none⟩ _ rfl (load_sty _ _ ⟨bits .andNot .i64 s.a pm, s.u, s.f0, s.f1, s.b0, s.b1, s.l0, s.l1⟩ (put8 _ _ ⟨bits .andNot .i64 s.a pm, s.u, s.f0, s.f1, s.b0, s.b1, s.l0, s.l1⟩ z8 (HZ.out.grown (grown_set _ w.heap.size 0 _) (by simp; omega))))) rfl ?_
    exact ⟨rfl, below8 _ ⟨bits .andNot .i64 s.a pm, s.u, s.f0, s.f1, s.b0, s.b1, s.l0, s.l1⟩ (HW.out.setCell (p := ⟨w.heap.size, 0, none⟩) (Nat.le_refl _) _) (by omega)⟩
set_option maxRecDepth 100000 in
set_option maxHeartbeats 2000000 in
theorem rpen3 (s : S8) (pk pm pc pd : Int) (pt : ByteArray) (He : Hid (errP ⟨pk, 3, pm, pc, pd, pt⟩ = 0)) (w : World) : Calls Tryd.prog 35 #[.agg #[.int .i64 s.a, .int .i64 s.u, .int .i64 s.f0, .int .i64 s.f1, .int .i64 s.b0, .int .i64 s.b1, .int .i64 s.l0, .int .i64 s.l1], .agg #[.int .i64 pk, .int .i64 3, .int .i64 pm, .int .i64 pc, .int .i64 pd, .string pt]] w fun e w' => e = .returned (stV ⟨s.a, pm, s.f0, s.f1, s.b0, s.b1, s.l0, s.l1⟩) ∧ Below w.heap.size w w' := by
    go_enter Tryd.func35, Tryd.ntmps35
    go_wp2_with fail
    have hS0 : Box (((w.alloc (.cells #[.int .i64 s.a, .int .i64 s.u, .int .i64 s.f0, .int .i64 s.f1, .int .i64 s.b0, .int .i64 s.b1, .int .i64 s.l0, .int .i64 s.l1] 25)).alloc (.cells #[.int .i64 pk, .int .i64 3, .int .i64 pm, .int .i64 pc, .int .i64 pd, .string pt] 27)).alloc (.cells #[.int .i64 0, .int .i64 0, .int .i64 0, .int .i64 0, .int .i64 0, .int .i64 0, .int .i64 0, .int .i64 0] 25)) w.heap.size (cS s) := ((Box.new _ _ _).alloc _).alloc _
    have hP0 : Box (((w.alloc (.cells #[.int .i64 s.a, .int .i64 s.u, .int .i64 s.f0, .int .i64 s.f1, .int .i64 s.b0, .int .i64 s.b1, .int .i64 s.l0, .int .i64 s.l1] 25)).alloc (.cells #[.int .i64 pk, .int .i64 3, .int .i64 pm, .int .i64 pc, .int .i64 pd, .string pt] 27)).alloc (.cells #[.int .i64 0, .int .i64 0, .int .i64 0, .int .i64 0, .int .i64 0, .int .i64 0, .int .i64 0, .int .i64 0] 25)) (w.heap.size + 1) (cP ⟨pk, 3, pm, pc, pd, pt⟩) := (Box.of (alloc1_at _ _ _)).alloc _
    have hZ0 : Box (((w.alloc (.cells #[.int .i64 s.a, .int .i64 s.u, .int .i64 s.f0, .int .i64 s.f1, .int .i64 s.b0, .int .i64 s.b1, .int .i64 s.l0, .int .i64 s.l1] 25)).alloc (.cells #[.int .i64 pk, .int .i64 3, .int .i64 pm, .int .i64 pc, .int .i64 pd, .string pt] 27)).alloc (.cells #[.int .i64 0, .int .i64 0, .int .i64 0, .int .i64 0, .int .i64 0, .int .i64 0, .int .i64 0, .int .i64 0] 25)) (w.heap.size + 1 + 1) (cS z8) := Box.of (alloc2_at _ _ _ _)
    have hW0 : Below w.heap.size w (((w.alloc (.cells #[.int .i64 s.a, .int .i64 s.u, .int .i64 s.f0, .int .i64 s.f1, .int .i64 s.b0, .int .i64 s.b1, .int .i64 s.l0, .int .i64 s.l1] 25)).alloc (.cells #[.int .i64 pk, .int .i64 3, .int .i64 pm, .int .i64 pc, .int .i64 pd, .string pt] 27)).alloc (.cells #[.int .i64 0, .int .i64 0, .int .i64 0, .int .i64 0, .int .i64 0, .int .i64 0, .int .i64 0, .int .i64 0] 25)) := (two_boxes w _ _).alloc (by simp; omega) _
    generalize ((w.alloc (.cells #[.int .i64 s.a, .int .i64 s.u, .int .i64 s.f0, .int .i64 s.f1, .int .i64 s.b0, .int .i64 s.b1, .int .i64 s.l0, .int .i64 s.l1] 25)).alloc (.cells #[.int .i64 pk, .int .i64 3, .int .i64 pm, .int .i64 pc, .int .i64 pd, .string pt] 27)).alloc (.cells #[.int .i64 0, .int .i64 0, .int .i64 0, .int .i64 0, .int .i64 0, .int .i64 0, .int .i64 0, .int .i64 0] 25) = w1 at hS0 hP0 hZ0 hW0 ⊢
    refine (rcheckPen_is ⟨pk, 3, pm, pc, pd, pt⟩ 0 He.out _).mono ?_
    rintro e w2 ⟨rfl, hb2⟩
    have hS := hS0.keep hb2
    have hP := hP0.keep hb2
    have hZ := hZ0.keep hb2
    have HW := Lib.hid (hW0.trans (hb2.mono hW0.size))
    clear hS0 hP0 hZ0 hW0 hb2
    have lS := hS.1
    have lP := hP.1
    have lZ := hZ.1
    have x0 := hS.cell 0 _ rfl
    have v0 := hS.free 0 (by show 0 < 8; decide)
    have x1 := hS.cell 1 _ rfl
    have v1 := hS.free 1 (by show 1 < 8; decide)
    have x2 := hS.cell 2 _ rfl
    have v2 := hS.free 2 (by show 2 < 8; decide)
    have x3 := hS.cell 3 _ rfl
    have v3 := hS.free 3 (by show 3 < 8; decide)
    have x4 := hS.cell 4 _ rfl
    have v4 := hS.free 4 (by show 4 < 8; decide)
    have x5 := hS.cell 5 _ rfl
    have v5 := hS.free 5 (by show 5 < 8; decide)
    have x6 := hS.cell 6 _ rfl
    have v6 := hS.free 6 (by show 6 < 8; decide)
    have x7 := hS.cell 7 _ rfl
    have v7 := hS.free 7 (by show 7 < 8; decide)
    have y0 := hP.cell 0 _ rfl
    have y1 := hP.cell 1 _ rfl
    have y2 := hP.cell 2 _ rfl
    have y3 := hP.cell 3 _ rfl
    have y4 := hP.cell 4 _ rfl
    have y5 := hP.cell 5 _ rfl
    have z0 := hZ.cell 0 _ rfl
    have k0 := hZ.free 0 (by show 0 < 8; decide)
    have z1 := hZ.cell 1 _ rfl
    have k1 := hZ.free 1 (by show 1 < 8; decide)
    have z2 := hZ.cell 2 _ rfl
    have k2 := hZ.free 2 (by show 2 < 8; decide)
    have z3 := hZ.cell 3 _ rfl
    have k3 := hZ.free 3 (by show 3 < 8; decide)
    have z4 := hZ.cell 4 _ rfl
    have k4 := hZ.free 4 (by show 4 < 8; decide)
    have z5 := hZ.cell 5 _ rfl
    have k5 := hZ.free 5 (by show 5 < 8; decide)
    have z6 := hZ.cell 6 _ rfl
    have k6 := hZ.free 6 (by show 6 < 8; decide)
    have z7 := hZ.cell 7 _ rfl
    have k7 := hZ.free 7 (by show 7 < 8; decide)
    have HZ := Lib.hid hZ
    have HS := Lib.hid hS
    clear hS hP hZ
    go_wp2
    refine bodyPost_ret (ret_cell1 rfl _ _ ⟨w.heap.size + 1 + 1, 0, none⟩ _ rfl (load_sty _ _ ⟨s.a, pm, s.f0, s.f1, s.b0, s.b1, s.l0, s.l1⟩ (put8 _ _ ⟨s.a, pm, s.f0, s.f1, s.b0, s.b1, s.l0, s.l1⟩ z8 (HZ.out.grown (grown_set _ w.heap.size 1 _) (by simp; omega))))) rfl ?_
    exact ⟨rfl, below8 _ ⟨s.a, pm, s.f0, s.f1, s.b0, s.b1, s.l0, s.l1⟩ (HW.out.setCell (p := ⟨w.heap.size, 1, none⟩) (Nat.le_refl _) _) (by omega)⟩
set_option maxRecDepth 100000 in
set_option maxHeartbeats 2000000 in
theorem rpen4 (s : S8) (pk pm pc pd : Int) (pt : ByteArray) (He : Hid (errP ⟨pk, 4, pm, pc, pd, pt⟩ = 0)) (w : World) : Calls Tryd.prog 35 #[.agg #[.int .i64 s.a, .int .i64 s.u, .int .i64 s.f0, .int .i64 s.f1, .int .i64 s.b0, .int .i64 s.b1, .int .i64 s.l0, .int .i64 s.l1], .agg #[.int .i64 pk, .int .i64 4, .int .i64 pm, .int .i64 pc, .int .i64 pd, .string pt]] w fun e w' => e = .returned (stV ⟨s.a, s.u, pc, pd, s.b0, s.b1, s.l0, s.l1⟩) ∧ Below w.heap.size w w' := by
    go_enter Tryd.func35, Tryd.ntmps35
    go_wp2_with fail
    have hS0 : Box (((w.alloc (.cells #[.int .i64 s.a, .int .i64 s.u, .int .i64 s.f0, .int .i64 s.f1, .int .i64 s.b0, .int .i64 s.b1, .int .i64 s.l0, .int .i64 s.l1] 25)).alloc (.cells #[.int .i64 pk, .int .i64 4, .int .i64 pm, .int .i64 pc, .int .i64 pd, .string pt] 27)).alloc (.cells #[.int .i64 0, .int .i64 0, .int .i64 0, .int .i64 0, .int .i64 0, .int .i64 0, .int .i64 0, .int .i64 0] 25)) w.heap.size (cS s) := ((Box.new _ _ _).alloc _).alloc _
    have hP0 : Box (((w.alloc (.cells #[.int .i64 s.a, .int .i64 s.u, .int .i64 s.f0, .int .i64 s.f1, .int .i64 s.b0, .int .i64 s.b1, .int .i64 s.l0, .int .i64 s.l1] 25)).alloc (.cells #[.int .i64 pk, .int .i64 4, .int .i64 pm, .int .i64 pc, .int .i64 pd, .string pt] 27)).alloc (.cells #[.int .i64 0, .int .i64 0, .int .i64 0, .int .i64 0, .int .i64 0, .int .i64 0, .int .i64 0, .int .i64 0] 25)) (w.heap.size + 1) (cP ⟨pk, 4, pm, pc, pd, pt⟩) := (Box.of (alloc1_at _ _ _)).alloc _
    have hZ0 : Box (((w.alloc (.cells #[.int .i64 s.a, .int .i64 s.u, .int .i64 s.f0, .int .i64 s.f1, .int .i64 s.b0, .int .i64 s.b1, .int .i64 s.l0, .int .i64 s.l1] 25)).alloc (.cells #[.int .i64 pk, .int .i64 4, .int .i64 pm, .int .i64 pc, .int .i64 pd, .string pt] 27)).alloc (.cells #[.int .i64 0, .int .i64 0, .int .i64 0, .int .i64 0, .int .i64 0, .int .i64 0, .int .i64 0, .int .i64 0] 25)) (w.heap.size + 1 + 1) (cS z8) := Box.of (alloc2_at _ _ _ _)
    have hW0 : Below w.heap.size w (((w.alloc (.cells #[.int .i64 s.a, .int .i64 s.u, .int .i64 s.f0, .int .i64 s.f1, .int .i64 s.b0, .int .i64 s.b1, .int .i64 s.l0, .int .i64 s.l1] 25)).alloc (.cells #[.int .i64 pk, .int .i64 4, .int .i64 pm, .int .i64 pc, .int .i64 pd, .string pt] 27)).alloc (.cells #[.int .i64 0, .int .i64 0, .int .i64 0, .int .i64 0, .int .i64 0, .int .i64 0, .int .i64 0, .int .i64 0] 25)) := (two_boxes w _ _).alloc (by simp; omega) _
    generalize ((w.alloc (.cells #[.int .i64 s.a, .int .i64 s.u, .int .i64 s.f0, .int .i64 s.f1, .int .i64 s.b0, .int .i64 s.b1, .int .i64 s.l0, .int .i64 s.l1] 25)).alloc (.cells #[.int .i64 pk, .int .i64 4, .int .i64 pm, .int .i64 pc, .int .i64 pd, .string pt] 27)).alloc (.cells #[.int .i64 0, .int .i64 0, .int .i64 0, .int .i64 0, .int .i64 0, .int .i64 0, .int .i64 0, .int .i64 0] 25) = w1 at hS0 hP0 hZ0 hW0 ⊢
    refine (rcheckPen_is ⟨pk, 4, pm, pc, pd, pt⟩ 0 He.out _).mono ?_
    rintro e w2 ⟨rfl, hb2⟩
    have hS := hS0.keep hb2
    have hP := hP0.keep hb2
    have hZ := hZ0.keep hb2
    have HW := Lib.hid (hW0.trans (hb2.mono hW0.size))
    clear hS0 hP0 hZ0 hW0 hb2
    have lS := hS.1
    have lP := hP.1
    have lZ := hZ.1
    have x0 := hS.cell 0 _ rfl
    have v0 := hS.free 0 (by show 0 < 8; decide)
    have x1 := hS.cell 1 _ rfl
    have v1 := hS.free 1 (by show 1 < 8; decide)
    have x2 := hS.cell 2 _ rfl
    have v2 := hS.free 2 (by show 2 < 8; decide)
    have x3 := hS.cell 3 _ rfl
    have v3 := hS.free 3 (by show 3 < 8; decide)
    have x4 := hS.cell 4 _ rfl
    have v4 := hS.free 4 (by show 4 < 8; decide)
    have x5 := hS.cell 5 _ rfl
    have v5 := hS.free 5 (by show 5 < 8; decide)
    have x6 := hS.cell 6 _ rfl
    have v6 := hS.free 6 (by show 6 < 8; decide)
    have x7 := hS.cell 7 _ rfl
    have v7 := hS.free 7 (by show 7 < 8; decide)
    have y0 := hP.cell 0 _ rfl
    have y1 := hP.cell 1 _ rfl
    have y2 := hP.cell 2 _ rfl
    have y3 := hP.cell 3 _ rfl
    have y4 := hP.cell 4 _ rfl
    have y5 := hP.cell 5 _ rfl
    have z0 := hZ.cell 0 _ rfl
    have k0 := hZ.free 0 (by show 0 < 8; decide)
    have z1 := hZ.cell 1 _ rfl
    have k1 := hZ.free 1 (by show 1 < 8; decide)
    have z2 := hZ.cell 2 _ rfl
    have k2 := hZ.free 2 (by show 2 < 8; decide)
    have z3 := hZ.cell 3 _ rfl
    have k3 := hZ.free 3 (by show 3 < 8; decide)
    have z4 := hZ.cell 4 _ rfl
    have k4 := hZ.free 4 (by show 4 < 8; decide)
    have z5 := hZ.cell 5 _ rfl
    have k5 := hZ.free 5 (by show 5 < 8; decide)
    have z6 := hZ.cell 6 _ rfl
    have k6 := hZ.free 6 (by show 6 < 8; decide)
    have z7 := hZ.cell 7 _ rfl
    have k7 := hZ.free 7 (by show 7 < 8; decide)
    have HZ := Lib.hid hZ
    have HS := Lib.hid hS
    clear hS hP hZ
    go_wp2
    refine bodyPost_ret (ret_cell1 rfl _ _ ⟨w.heap.size + 1 + 1, 0, none⟩ _ rfl (load_sty _ _ ⟨s.a, s.u, pc, pd, s.b0, s.b1, s.l0, s.l1⟩ (put8 _ _ ⟨s.a, s.u, pc, pd, s.b0, s.b1, s.l0, s.l1⟩ z8 ((HZ.out.grown (grown_set _ w.heap.size 2 _) (by simp; omega)).grown (grown_set _ w.heap.size 3 _) (by simp; omega))))) rfl ?_
    exact ⟨rfl, below8 _ ⟨s.a, s.u, pc, pd, s.b0, s.b1, s.l0, s.l1⟩ ((HW.out.setCell (p := ⟨w.heap.size, 2, none⟩) (Nat.le_refl _) _).setCell (p := ⟨w.heap.size, 3, none⟩) (Nat.le_refl _) _) (by omega)⟩
set_option maxRecDepth 100000 in
set_option maxHeartbeats 2000000 in
theorem rpen5 (s : S8) (pk pm pc pd : Int) (pt : ByteArray) (He : Hid (errP ⟨pk, 5, pm, pc, pd, pt⟩ = 0)) (w : World) : Calls Tryd.prog 35 #[.agg #[.int .i64 s.a, .int .i64 s.u, .int .i64 s.f0, .int .i64 s.f1, .int .i64 s.b0, .int .i64 s.b1, .int .i64 s.l0, .int .i64 s.l1], .agg #[.int .i64 pk, .int .i64 5, .int .i64 pm, .int .i64 pc, .int .i64 pd, .string pt]] w fun e w' => e = .returned (stV ⟨s.a, s.u, s.f0, s.f1, pc, pd, s.l0, s.l1⟩) ∧ Below w.heap.size w w' := by
    go_enter Tryd.func35, Tryd.ntmps35
    go_wp2_with fail
    have hS0 : Box (((w.alloc (.cells #[.int .i64 s.a, .int .i64 s.u, .int .i64 s.f0, .int .i64 s.f1, .int .i64 s.b0, .int .i64 s.b1, .int .i64 s.l0, .int .i64 s.l1] 25)).alloc (.cells #[.int .i64 pk, .int .i64 5, .int .i64 pm, .int .i64 pc, .int .i64 pd, .string pt] 27)).alloc (.cells #[.int .i64 0, .int .i64 0, .int .i64 0, .int .i64 0, .int .i64 0, .int .i64 0, .int .i64 0, .int .i64 0] 25)) w.heap.size (cS s) := ((Box.new _ _ _).alloc _).alloc _
    have hP0 : Box (((w.alloc (.cells #[.int .i64 s.a, .int .i64 s.u, .int .i64 s.f0, .int .i64 s.f1, .int .i64 s.b0, .int .i64 s.b1, .int .i64 s.l0, .int .i64 s.l1] 25)).alloc (.cells #[.int .i64 pk, .int .i64 5, .int .i64 pm, .int .i64 pc, .int .i64 pd, .string pt] 27)).alloc (.cells #[.int .i64 0, .int .i64 0, .int .i64 0, .int .i64 0, .int .i64 0, .int .i64 0, .int .i64 0, .int .i64 0] 25)) (w.heap.size + 1) (cP ⟨pk, 5, pm, pc, pd, pt⟩) := (Box.of (alloc1_at _ _ _)).alloc _
    have hZ0 : Box (((w.alloc (.cells #[.int .i64 s.a, .int .i64 s.u, .int .i64 s.f0, .int .i64 s.f1, .int .i64 s.b0, .int .i64 s.b1, .int .i64 s.l0, .int .i64 s.l1] 25)).alloc (.cells #[.int .i64 pk, .int .i64 5, .int .i64 pm, .int .i64 pc, .int .i64 pd, .string pt] 27)).alloc (.cells #[.int .i64 0, .int .i64 0, .int .i64 0, .int .i64 0, .int .i64 0, .int .i64 0, .int .i64 0, .int .i64 0] 25)) (w.heap.size + 1 + 1) (cS z8) := Box.of (alloc2_at _ _ _ _)
    have hW0 : Below w.heap.size w (((w.alloc (.cells #[.int .i64 s.a, .int .i64 s.u, .int .i64 s.f0, .int .i64 s.f1, .int .i64 s.b0, .int .i64 s.b1, .int .i64 s.l0, .int .i64 s.l1] 25)).alloc (.cells #[.int .i64 pk, .int .i64 5, .int .i64 pm, .int .i64 pc, .int .i64 pd, .string pt] 27)).alloc (.cells #[.int .i64 0, .int .i64 0, .int .i64 0, .int .i64 0, .int .i64 0, .int .i64 0, .int .i64 0, .int .i64 0] 25)) := (two_boxes w _ _).alloc (by simp; omega) _
    generalize ((w.alloc (.cells #[.int .i64 s.a, .int .i64 s.u, .int .i64 s.f0, .int .i64 s.f1, .int .i64 s.b0, .int .i64 s.b1, .int .i64 s.l0, .int .i64 s.l1] 25)).alloc (.cells #[.int .i64 pk, .int .i64 5, .int .i64 pm, .int .i64 pc, .int .i64 pd, .string pt] 27)).alloc (.cells #[.int .i64 0, .int .i64 0, .int .i64 0, .int .i64 0, .int .i64 0, .int .i64 0, .int .i64 0, .int .i64 0] 25) = w1 at hS0 hP0 hZ0 hW0 ⊢
    refine (rcheckPen_is ⟨pk, 5, pm, pc, pd, pt⟩ 0 He.out _).mono ?_
    rintro e w2 ⟨rfl, hb2⟩
    have hS := hS0.keep hb2
    have hP := hP0.keep hb2
    have hZ := hZ0.keep hb2
    have HW := Lib.hid (hW0.trans (hb2.mono hW0.size))
    clear hS0 hP0 hZ0 hW0 hb2
    have lS := hS.1
    have lP := hP.1
    have lZ := hZ.1
    have x0 := hS.cell 0 _ rfl
    have v0 := hS.free 0 (by show 0 < 8; decide)
    have x1 := hS.cell 1 _ rfl
    have v1 := hS.free 1 (by show 1 < 8; decide)
    have x2 := hS.cell 2 _ rfl
    have v2 := hS.free 2 (by show 2 < 8; decide)
    have x3 := hS.cell 3 _ rfl
    have v3 := hS.free 3 (by show 3 < 8; decide)
    have x4 := hS.cell 4 _ rfl
    have v4 := hS.free 4 (by show 4 < 8; decide)
    have x5 := hS.cell 5 _ rfl
    have v5 := hS.free 5 (by show 5 < 8; decide)
    have x6 := hS.cell 6 _ rfl
    have v6 := hS.free 6 (by show 6 < 8; decide)
    have x7 := hS.cell 7 _ rfl
    have v7 := hS.free 7 (by show 7 < 8; decide)
    have y0 := hP.cell 0 _ rfl
    have y1 := hP.cell 1 _ rfl
    have y2 := hP.cell 2 _ rfl
    have y3 := hP.cell 3 _ rfl
    have y4 := hP.cell 4 _ rfl
    have y5 := hP.cell 5 _ rfl
    have z0 := hZ.cell 0 _ rfl
    have k0 := hZ.free 0 (by show 0 < 8; decide)
    have z1 := hZ.cell 1 _ rfl
    have k1 := hZ.free 1 (by show 1 < 8; decide)
    have z2 := hZ.cell 2 _ rfl
    have k2 := hZ.free 2 (by show 2 < 8; decide)
    have z3 := hZ.cell 3 _ rfl
    have k3 := hZ.free 3 (by show 3 < 8; decide)
    have z4 := hZ.cell 4 _ rfl
    have k4 := hZ.free 4 (by show 4 < 8; decide)
    have z5 := hZ.cell 5 _ rfl
    have k5 := hZ.free 5 (by show 5 < 8; decide)
    have z6 := hZ.cell 6 _ rfl
    have k6 := hZ.free 6 (by show 6 < 8; decide)
    have z7 := hZ.cell 7 _ rfl
    have k7 := hZ.free 7 (by show 7 < 8; decide)
    have HZ := Lib.hid hZ
    have HS := Lib.hid hS
    clear hS hP hZ
    go_wp2
    refine bodyPost_ret (ret_cell1 rfl _ _ ⟨w.heap.size + 1 + 1, 0, none⟩ _ rfl (load_sty _ _ ⟨s.a, s.u, s.f0, s.f1, pc, pd, s.l0, s.l1⟩ (put8 _ _ ⟨s.a, s.u, s.f0, s.f1, pc, pd, s.l0, s.l1⟩ z8 ((HZ.out.grown (grown_set _ w.heap.size 4 _) (by simp; omega)).grown (grown_set _ w.heap.size 5 _) (by simp; omega))))) rfl ?_
    exact ⟨rfl, below8 _ ⟨s.a, s.u, s.f0, s.f1, pc, pd, s.l0, s.l1⟩ ((HW.out.setCell (p := ⟨w.heap.size, 4, none⟩) (Nat.le_refl _) _).setCell (p := ⟨w.heap.size, 5, none⟩) (Nat.le_refl _) _) (by omega)⟩
set_option maxRecDepth 100000 in
set_option maxHeartbeats 2000000 in
theorem rpen6 (s : S8) (pk pm pc pd : Int) (pt : ByteArray) (He : Hid (errP ⟨pk, 6, pm, pc, pd, pt⟩ = 0)) (w : World) : Calls Tryd.prog 35 #[.agg #[.int .i64 s.a, .int .i64 s.u, .int .i64 s.f0, .int .i64 s.f1, .int .i64 s.b0, .int .i64 s.b1, .int .i64 s.l0, .int .i64 s.l1], .agg #[.int .i64 pk, .int .i64 6, .int .i64 pm, .int .i64 pc, .int .i64 pd, .string pt]] w fun e w' => e = .returned (stV ⟨s.a, s.u, s.f0, s.f1, s.b0, s.b1, pc, pd⟩) ∧ Below w.heap.size w w' := by
    go_enter Tryd.func35, Tryd.ntmps35
    go_wp2_with fail
    have hS0 : Box (((w.alloc (.cells #[.int .i64 s.a, .int .i64 s.u, .int .i64 s.f0, .int .i64 s.f1, .int .i64 s.b0, .int .i64 s.b1, .int .i64 s.l0, .int .i64 s.l1] 25)).alloc (.cells #[.int .i64 pk, .int .i64 6, .int .i64 pm, .int .i64 pc, .int .i64 pd, .string pt] 27)).alloc (.cells #[.int .i64 0, .int .i64 0, .int .i64 0, .int .i64 0, .int .i64 0, .int .i64 0, .int .i64 0, .int .i64 0] 25)) w.heap.size (cS s) := ((Box.new _ _ _).alloc _).alloc _
    have hP0 : Box (((w.alloc (.cells #[.int .i64 s.a, .int .i64 s.u, .int .i64 s.f0, .int .i64 s.f1, .int .i64 s.b0, .int .i64 s.b1, .int .i64 s.l0, .int .i64 s.l1] 25)).alloc (.cells #[.int .i64 pk, .int .i64 6, .int .i64 pm, .int .i64 pc, .int .i64 pd, .string pt] 27)).alloc (.cells #[.int .i64 0, .int .i64 0, .int .i64 0, .int .i64 0, .int .i64 0, .int .i64 0, .int .i64 0, .int .i64 0] 25)) (w.heap.size + 1) (cP ⟨pk, 6, pm, pc, pd, pt⟩) := (Box.of (alloc1_at _ _ _)).alloc _
    have hZ0 : Box (((w.alloc (.cells #[.int .i64 s.a, .int .i64 s.u, .int .i64 s.f0, .int .i64 s.f1, .int .i64 s.b0, .int .i64 s.b1, .int .i64 s.l0, .int .i64 s.l1] 25)).alloc (.cells #[.int .i64 pk, .int .i64 6, .int .i64 pm, .int .i64 pc, .int .i64 pd, .string pt] 27)).alloc (.cells #[.int .i64 0, .int .i64 0, .int .i64 0, .int .i64 0, .int .i64 0, .int .i64 0, .int .i64 0, .int .i64 0] 25)) (w.heap.size + 1 + 1) (cS z8) := Box.of (alloc2_at _ _ _ _)
    have hW0 : Below w.heap.size w (((w.alloc (.cells #[.int .i64 s.a, .int .i64 s.u, .int .i64 s.f0, .int .i64 s.f1, .int .i64 s.b0, .int .i64 s.b1, .int .i64 s.l0, .int .i64 s.l1] 25)).alloc (.cells #[.int .i64 pk, .int .i64 6, .int .i64 pm, .int .i64 pc, .int .i64 pd, .string pt] 27)).alloc (.cells #[.int .i64 0, .int .i64 0, .int .i64 0, .int .i64 0, .int .i64 0, .int .i64 0, .int .i64 0, .int .i64 0] 25)) := (two_boxes w _ _).alloc (by simp; omega) _
    generalize ((w.alloc (.cells #[.int .i64 s.a, .int .i64 s.u, .int .i64 s.f0, .int .i64 s.f1, .int .i64 s.b0, .int .i64 s.b1, .int .i64 s.l0, .int .i64 s.l1] 25)).alloc (.cells #[.int .i64 pk, .int .i64 6, .int .i64 pm, .int .i64 pc, .int .i64 pd, .string pt] 27)).alloc (.cells #[.int .i64 0, .int .i64 0, .int .i64 0, .int .i64 0, .int .i64 0, .int .i64 0, .int .i64 0, .int .i64 0] 25) = w1 at hS0 hP0 hZ0 hW0 ⊢
    refine (rcheckPen_is ⟨pk, 6, pm, pc, pd, pt⟩ 0 He.out _).mono ?_
    rintro e w2 ⟨rfl, hb2⟩
    have hS := hS0.keep hb2
    have hP := hP0.keep hb2
    have hZ := hZ0.keep hb2
    have HW := Lib.hid (hW0.trans (hb2.mono hW0.size))
    clear hS0 hP0 hZ0 hW0 hb2
    have lS := hS.1
    have lP := hP.1
    have lZ := hZ.1
    have x0 := hS.cell 0 _ rfl
    have v0 := hS.free 0 (by show 0 < 8; decide)
    have x1 := hS.cell 1 _ rfl
    have v1 := hS.free 1 (by show 1 < 8; decide)
    have x2 := hS.cell 2 _ rfl
    have v2 := hS.free 2 (by show 2 < 8; decide)
    have x3 := hS.cell 3 _ rfl
    have v3 := hS.free 3 (by show 3 < 8; decide)
    have x4 := hS.cell 4 _ rfl
    have v4 := hS.free 4 (by show 4 < 8; decide)
    have x5 := hS.cell 5 _ rfl
    have v5 := hS.free 5 (by show 5 < 8; decide)
    have x6 := hS.cell 6 _ rfl
    have v6 := hS.free 6 (by show 6 < 8; decide)
    have x7 := hS.cell 7 _ rfl
    have v7 := hS.free 7 (by show 7 < 8; decide)
    have y0 := hP.cell 0 _ rfl
    have y1 := hP.cell 1 _ rfl
    have y2 := hP.cell 2 _ rfl
    have y3 := hP.cell 3 _ rfl
    have y4 := hP.cell 4 _ rfl
    have y5 := hP.cell 5 _ rfl
    have z0 := hZ.cell 0 _ rfl
    have k0 := hZ.free 0 (by show 0 < 8; decide)
    have z1 := hZ.cell 1 _ rfl
    have k1 := hZ.free 1 (by show 1 < 8; decide)
    have z2 := hZ.cell 2 _ rfl
    have k2 := hZ.free 2 (by show 2 < 8; decide)
    have z3 := hZ.cell 3 _ rfl
    have k3 := hZ.free 3 (by show 3 < 8; decide)
    have z4 := hZ.cell 4 _ rfl
    have k4 := hZ.free 4 (by show 4 < 8; decide)
    have z5 := hZ.cell 5 _ rfl
    have k5 := hZ.free 5 (by show 5 < 8; decide)
    have z6 := hZ.cell 6 _ rfl
    have k6 := hZ.free 6 (by show 6 < 8; decide)
    have z7 := hZ.cell 7 _ rfl
    have k7 := hZ.free 7 (by show 7 < 8; decide)
    have HZ := Lib.hid hZ
    have HS := Lib.hid hS
    clear hS hP hZ
    go_wp2
    refine bodyPost_ret (ret_cell1 rfl _ _ ⟨w.heap.size + 1 + 1, 0, none⟩ _ rfl (load_sty _ _ ⟨s.a, s.u, s.f0, s.f1, s.b0, s.b1, pc, pd⟩ (put8 _ _ ⟨s.a, s.u, s.f0, s.f1, s.b0, s.b1, pc, pd⟩ z8 ((HZ.out.grown (grown_set _ w.heap.size 6 _) (by simp; omega)).grown (grown_set _ w.heap.size 7 _) (by simp; omega))))) rfl ?_
    exact ⟨rfl, below8 _ ⟨s.a, s.u, s.f0, s.f1, s.b0, s.b1, pc, pd⟩ ((HW.out.setCell (p := ⟨w.heap.size, 6, none⟩) (Nat.le_refl _) _).setCell (p := ⟨w.heap.size, 7, none⟩) (Nat.le_refl _) _) (by omega)⟩
theorem rpen_yes (s : S8) (p : P6) (hp : okP p = true) (ha : 0 ≤ s.a) (hb : s.a ≤ 255) (w : World) : Calls Tryd.prog 35 #[.agg #[.int .i64 s.a, .int .i64 s.u, .int .i64 s.f0, .int .i64 s.f1, .int .i64 s.b0, .int .i64 s.b1, .int .i64 s.l0, .int .i64 s.l1], .agg #[.int .i64 p.k, .int .i64 p.n, .int .i64 p.m, .int .i64 p.c0, .int .i64 p.c1, .string p.t]] w fun e w' => e = .returned (stV (app s p)) ∧ Below w.heap.size w w' := by
  have hn := okP_n p hp
  have hf := okP_fit p hp
  have He := Lib.hid (show errP p = 0 by unfold errP; rw [hp]; rfl)
  clear hp
  obtain ⟨pk, pn, pm, pc, pd, pt⟩ := p
  simp only at hn hf ⊢
  rcases hn with rfl | rfl | rfl | rfl | rfl | rfl | rfl
  · exact rpen0 s pk pm pc pd pt He w
  · exact rpen1 s pk pm pc pd pt He w
  · exact rpen2 s pk pm pc pd pt He hf ha hb w
  · exact rpen3 s pk pm pc pd pt He w
  · exact rpen4 s pk pm pc pd pt He w
  · exact rpen5 s pk pm pc pd pt He w
  · exact rpen6 s pk pm pc pd pt He w
end Go.Proofs.YtokjjeekkfefmaaDoor.Sty
