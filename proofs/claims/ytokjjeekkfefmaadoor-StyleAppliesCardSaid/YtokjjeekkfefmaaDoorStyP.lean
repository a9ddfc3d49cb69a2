/-
  Contracts of a draft's Style and of the reference's Apply.
-/
import Derived.Test.YtokjjeekkfefmaaDoorStyO
namespace Go.Proofs.YtokjjeekkfefmaaDoor.Sty
open Go.RowKit Utf Col

/-- the style of a draft -/
def styD (d : D8) : S8 := ⟨(d.a.toNat : Int), (d.u.toNat : Int) % 6, colK d.e0, colN d.e0, colK d.e1, colN d.e1, colK d.e2, colN d.e2⟩
theorem styD_ok (d : D8) : errS (styD d) = 0 := by
  have h0 := col_ok d.e0
  have h1 := col_ok d.e1
  have h2 := col_ok d.e2
  have ha : d.a.toNat < 256 := d.a.toNat_lt
  have hr : inR (d.a.toNat : Int) ((d.u.toNat : Int) % 6) = true := decide_eq_true (by omega)
  simp only [errS, styD, hr, h0, h1, h2]
  rfl
theorem lcolor_z (z : Int) (e : UInt32) (h : (e.toNat : Int) = z) (x y : Int) (hx : colK e = x) (hy : colN e = y) (w : World) : Calls Tryd.prog 28 #[.int .u32 z] w fun r w' => r = .returned (.agg #[.int .i64 x, .int .i64 y]) ∧ Below w.heap.size w w' := by
  subst h hx hy; exact lcolor_any e w
set_option maxRecDepth 100000 in
set_option maxHeartbeats 4000000 in
theorem style_z (z0 z1 z2 z3 z4 z5 z6 z7 f0 f1 b0 b1 l0 l1 : Int) (ha : z0 < 256) (ha0 : 0 ≤ z0) (hu0 : 0 ≤ z1)
    (c4 : Hid (∀ w, Calls Tryd.prog 28 #[.int .u32 z4] w fun r w' => r = .returned (.agg #[.int .i64 f0, .int .i64 f1]) ∧ Below w.heap.size w w'))
    (c5 : Hid (∀ w, Calls Tryd.prog 28 #[.int .u32 z5] w fun r w' => r = .returned (.agg #[.int .i64 b0, .int .i64 b1]) ∧ Below w.heap.size w w'))
    (c6 : Hid (∀ w, Calls Tryd.prog 28 #[.int .u32 z6] w fun r w' => r = .returned (.agg #[.int .i64 l0, .int .i64 l1]) ∧ Below w.heap.size w w'))
    (w : World) : Calls Tryd.prog 10 #[.agg #[.int .u8 z0, .int .u8 z1, .int .u8 z2, .int .u8 z3, .int .u32 z4, .int .u32 z5, .int .u32 z6, .int .u32 z7]] w fun r w' => r = .returned (stV ⟨z0, z1 % 6, f0, f1, b0, b1, l0, l1⟩) ∧ Below w.heap.size w w' := by
  have t1 : z1.tmod 6 = z1 % 6 := Int.tmod_eq_emod_of_nonneg hu0
  obtain ⟨zu, hzu⟩ : ∃ zu, z1 % 6 = zu := ⟨_, rfl⟩
  rw [hzu]
  have t2 : IntKind.i64.wrap z0 = z0 := IntWalk.i64_in _ (by omega)
  have t3 : IntKind.i64.wrap zu = zu := IntWalk.i64_in _ (by omega)
  clear ha
  go_enter Tryd.func10, Tryd.ntmps10
  go_wp2_with fail
  have hA0 : Box ((w.alloc (.cells #[.int .u8 z0, .int .u8 z1, .int .u8 z2, .int .u8 z3, .int .u32 z4, .int .u32 z5, .int .u32 z6, .int .u32 z7] 31)).alloc (.cells #[.int .i64 0, .int .i64 0, .int .i64 0, .int .i64 0, .int .i64 0, .int .i64 0, .int .i64 0, .int .i64 0] 25)) w.heap.size [.int .u8 z0, .int .u8 z1, .int .u8 z2, .int .u8 z3, .int .u32 z4, .int .u32 z5, .int .u32 z6, .int .u32 z7] := (Box.new _ _ _).alloc _
  have hB0 : Box ((w.alloc (.cells #[.int .u8 z0, .int .u8 z1, .int .u8 z2, .int .u8 z3, .int .u32 z4, .int .u32 z5, .int .u32 z6, .int .u32 z7] 31)).alloc (.cells #[.int .i64 0, .int .i64 0, .int .i64 0, .int .i64 0, .int .i64 0, .int .i64 0, .int .i64 0, .int .i64 0] 25)) (w.heap.size + 1) (cS z8) := Box.of (alloc1_at _ _ _)
  have hW0 : Below w.heap.size w ((w.alloc (.cells #[.int .u8 z0, .int .u8 z1, .int .u8 z2, .int .u8 z3, .int .u32 z4, .int .u32 z5, .int .u32 z6, .int .u32 z7] 31)).alloc (.cells #[.int .i64 0, .int .i64 0, .int .i64 0, .int .i64 0, .int .i64 0, .int .i64 0, .int .i64 0, .int .i64 0] 25)) := two_boxes w _ _
  generalize (w.alloc (.cells #[.int .u8 z0, .int .u8 z1, .int .u8 z2, .int .u8 z3, .int .u32 z4, .int .u32 z5, .int .u32 z6, .int .u32 z7] 31)).alloc (.cells #[.int .i64 0, .int .i64 0, .int .i64 0, .int .i64 0, .int .i64 0, .int .i64 0, .int .i64 0, .int .i64 0] 25) = w1 at hA0 hB0 hW0 ⊢
  generalize hBB : w.heap.size + 1 = B at hB0 ⊢
  generalize hAA : w.heap.size = A at hA0 ⊢
  have hG : Below w1.heap.size w1 w1.drew := (Below.refl _ w1).drew
  have HW := Lib.hid hW0
  have HAA := Lib.hid hAA
  have HN := Lib.hid (show some A ≠ some B by simp; omega)
  have HBB := Lib.hid hBB
  have hlA := hA0.1
  have hlB := hB0.1
  have x0 := hA0.cell 0 _ rfl
  have x1 := hA0.cell 1 _ rfl
  have x2 := hA0.cell 2 _ rfl
  have x3 := hA0.cell 3 _ rfl
  have x4 := hA0.cell 4 _ rfl
  have x5 := hA0.cell 5 _ rfl
  have x6 := hA0.cell 6 _ rfl
  have x7 := hA0.cell 7 _ rfl
  have HB := Lib.hid hB0
  clear hA0 hB0 hW0 hAA hBB
  have d0_ : w1.drew.cell? ⟨A, 0, none⟩ = some (.int .u8 z0) := x0
  have d1_ : w1.drew.cell? ⟨A, 1, none⟩ = some (.int .u8 z1) := x1
  have d2_ : w1.drew.cell? ⟨A, 2, none⟩ = some (.int .u8 z2) := x2
  have d3_ : w1.drew.cell? ⟨A, 3, none⟩ = some (.int .u8 z3) := x3
  have d4_ : w1.drew.cell? ⟨A, 4, none⟩ = some (.int .u32 z4) := x4
  have d5_ : w1.drew.cell? ⟨A, 5, none⟩ = some (.int .u32 z5) := x5
  have d6_ : w1.drew.cell? ⟨A, 6, none⟩ = some (.int .u32 z6) := x6
  have d7_ : w1.drew.cell? ⟨A, 7, none⟩ = some (.int .u32 z7) := x7
  go_region_held3 (fun w' => w'.cell? ⟨A, 0, none⟩ = some (.int .u8 z0) ∧ w'.cell? ⟨A, 1, none⟩ = some (.int .u8 z1) ∧ w'.cell? ⟨A, 2, none⟩ = some (.int .u8 z2) ∧ w'.cell? ⟨A, 3, none⟩ = some (.int .u8 z3) ∧ w'.cell? ⟨A, 4, none⟩ = some (.int .u32 z4) ∧ w'.cell? ⟨A, 5, none⟩ = some (.int .u32 z5) ∧ w'.cell? ⟨A, 6, none⟩ = some (.int .u32 z6) ∧ w'.cell? ⟨A, 7, none⟩ = some (.int .u32 z7)) (first | exact ⟨by with_reducible assumption, by with_reducible assumption, by with_reducible assumption, by with_reducible assumption, by with_reducible assumption, by with_reducible assumption, by with_reducible assumption, by with_reducible assumption⟩ | exact ⟨(grown8 _ B ⟨_, _, _, _, _, _, _, _⟩).cell (by with_reducible assumption) HN.out, (grown8 _ B ⟨_, _, _, _, _, _, _, _⟩).cell (by with_reducible assumption) HN.out, (grown8 _ B ⟨_, _, _, _, _, _, _, _⟩).cell (by with_reducible assumption) HN.out, (grown8 _ B ⟨_, _, _, _, _, _, _, _⟩).cell (by with_reducible assumption) HN.out, (grown8 _ B ⟨_, _, _, _, _, _, _, _⟩).cell (by with_reducible assumption) HN.out, (grown8 _ B ⟨_, _, _, _, _, _, _, _⟩).cell (by with_reducible assumption) HN.out, (grown8 _ B ⟨_, _, _, _, _, _, _, _⟩).cell (by with_reducible assumption) HN.out, (grown8 _ B ⟨_, _, _, _, _, _, _, _⟩).cell (by with_reducible assumption) HN.out⟩ | go_keep) (first
    | (go_at_call 28; ((with_reducible refine (c4.out _).mono ?_); (rintro e wA ⟨rfl, hbA⟩; have hG := hG.trans (hbA.mono hG.size); clear hbA; (try clear d0_ d1_ d2_ d3_ d4_ d5_ d6_ d7_); have d0_ := (hG.cell (p := ⟨A, 0, none⟩) hlA).trans x0; have d1_ := (hG.cell (p := ⟨A, 1, none⟩) hlA).trans x1; have d2_ := (hG.cell (p := ⟨A, 2, none⟩) hlA).trans x2; have d3_ := (hG.cell (p := ⟨A, 3, none⟩) hlA).trans x3; have d4_ := (hG.cell (p := ⟨A, 4, none⟩) hlA).trans x4; have d5_ := (hG.cell (p := ⟨A, 5, none⟩) hlA).trans x5; have d6_ := (hG.cell (p := ⟨A, 6, none⟩) hlA).trans x6; have d7_ := (hG.cell (p := ⟨A, 7, none⟩) hlA).trans x7; skip)))
    | (go_at_call 28; ((with_reducible refine (c5.out _).mono ?_); (rintro e wA ⟨rfl, hbA⟩; have hG := hG.trans (hbA.mono hG.size); clear hbA; (try clear d0_ d1_ d2_ d3_ d4_ d5_ d6_ d7_); have d0_ := (hG.cell (p := ⟨A, 0, none⟩) hlA).trans x0; have d1_ := (hG.cell (p := ⟨A, 1, none⟩) hlA).trans x1; have d2_ := (hG.cell (p := ⟨A, 2, none⟩) hlA).trans x2; have d3_ := (hG.cell (p := ⟨A, 3, none⟩) hlA).trans x3; have d4_ := (hG.cell (p := ⟨A, 4, none⟩) hlA).trans x4; have d5_ := (hG.cell (p := ⟨A, 5, none⟩) hlA).trans x5; have d6_ := (hG.cell (p := ⟨A, 6, none⟩) hlA).trans x6; have d7_ := (hG.cell (p := ⟨A, 7, none⟩) hlA).trans x7; skip)))
    | (go_at_call 28; ((with_reducible refine (c6.out _).mono ?_); (rintro e wA ⟨rfl, hbA⟩; have hG := hG.trans (hbA.mono hG.size); clear hbA; (try clear d0_ d1_ d2_ d3_ d4_ d5_ d6_ d7_); have d0_ := (hG.cell (p := ⟨A, 0, none⟩) hlA).trans x0; have d1_ := (hG.cell (p := ⟨A, 1, none⟩) hlA).trans x1; have d2_ := (hG.cell (p := ⟨A, 2, none⟩) hlA).trans x2; have d3_ := (hG.cell (p := ⟨A, 3, none⟩) hlA).trans x3; have d4_ := (hG.cell (p := ⟨A, 4, none⟩) hlA).trans x4; have d5_ := (hG.cell (p := ⟨A, 5, none⟩) hlA).trans x5; have d6_ := (hG.cell (p := ⟨A, 6, none⟩) hlA).trans x6; have d7_ := (hG.cell (p := ⟨A, 7, none⟩) hlA).trans x7; have hB_ := HB.out.keep hG; have lB_ := hB_.1; have HB_ := Lib.hid hB_; have g0_ := hB_.cell 0 _ rfl; have k0_ := hB_.free 0 (by show 0 < 8; decide); have g1_ := hB_.cell 1 _ rfl; have k1_ := hB_.free 1 (by show 1 < 8; decide); have g2_ := hB_.cell 2 _ rfl; have k2_ := hB_.free 2 (by show 2 < 8; decide); have g3_ := hB_.cell 3 _ rfl; have k3_ := hB_.free 3 (by show 3 < 8; decide); have g4_ := hB_.cell 4 _ rfl; have k4_ := hB_.free 4 (by show 4 < 8; decide); have g5_ := hB_.cell 5 _ rfl; have k5_ := hB_.free 5 (by show 5 < 8; decide); have g6_ := hB_.cell 6 _ rfl; have k6_ := hB_.free 6 (by show 6 < 8; decide); have g7_ := hB_.cell 7 _ rfl; have k7_ := hB_.free 7 (by show 7 < 8; decide); clear hB_; skip))))
  rename_i hh
  clear hh
  clear x0 d0_ g0_ k0_ x1 d1_ g1_ k1_ x2 d2_ g2_ k2_ x3 d3_ g3_ k3_ x4 d4_ g4_ k4_ x5 d5_ g5_ k5_ x6 d6_ g6_ k6_ x7 d7_ g7_ k7_
  have hF := Lib.hid (HW.out.trans (hG.mono HW.out.size))
  clear hG
  go_wp2
  refine bodyPost_ret (ret_cell1 rfl _ _ ⟨B, 0, none⟩ _ rfl (load_sty _ _ ⟨z0, zu, f0, f1, b0, b1, l0, l1⟩ (put8 _ _ ⟨z0, zu, f0, f1, b0, b1, l0, l1⟩ z8 HB_.out))) rfl ?_
  exact ⟨rfl, below8 _ ⟨z0, zu, f0, f1, b0, b1, l0, l1⟩ hF.out (by have := HBB.out; omega)⟩
theorem style_any (d : D8) (w : World) : Calls Tryd.prog 10 #[.agg #[.int .u8 (d.a.toNat : Int), .int .u8 (d.u.toNat : Int), .int .u8 (d.w.toNat : Int), .int .u8 (d.m.toNat : Int), .int .u32 (d.e0.toNat : Int), .int .u32 (d.e1.toNat : Int), .int .u32 (d.e2.toNat : Int), .int .u32 (d.e3.toNat : Int)]] w fun r w' => r = .returned (stV (styD d)) ∧ Below w.heap.size w w' :=
  style_z _ _ _ _ _ _ _ _ _ _ _ _ _ _ (by have := d.a.toNat_lt; omega) (by omega) (by omega) (Lib.hid fun w => lcolor_any d.e0 w) (Lib.hid fun w => lcolor_any d.e1 w) (Lib.hid fun w => lcolor_any d.e2 w) w
theorem rrun_t (s : S8) (A : Option Addr) (ps : List P6) (n c : Nat) (hn : ps.length = n) (w : World) (hr : RdP w A ps) (hm : n ≤ 1000000) : Calls Tryd.prog 18 #[.agg #[.int .i64 s.a, .int .i64 s.u, .int .i64 s.f0, .int .i64 s.f1, .int .i64 s.b0, .int .i64 s.b1, .int .i64 s.l0, .int .i64 s.l1], .slice A n c] w fun e w' => e = .returned (.tuple #[.agg #[.int .i64 (runV s ps).a, .int .i64 (runV s ps).u, .int .i64 (runV s ps).f0, .int .i64 (runV s ps).f1, .int .i64 (runV s ps).b0, .int .i64 (runV s ps).b1, .int .i64 (runV s ps).l0, .int .i64 (runV s ps).l1], .int .i64 (runE s ps)]) ∧ Below w.heap.size w w' := by
  subst hn; exact rrun_any s A ps c w hr hm
set_option maxRecDepth 100000 in
set_option maxHeartbeats 1000000 in
theorem rapply_any (s : S8) (p : P6) (w : World) : Calls Tryd.prog 20 #[stV s, pnV p] w fun e w' => e = .returned (runT s [p]) ∧ Below w.heap.size w w' := by
  unfold stV pnV
  go_enter Tryd.func20, Tryd.ntmps20
  go_wp2_with fail
  have hC0 : Box (((w.alloc (.cells #[.int .i64 s.a, .int .i64 s.u, .int .i64 s.f0, .int .i64 s.f1, .int .i64 s.b0, .int .i64 s.b1, .int .i64 s.l0, .int .i64 s.l1] 25)).alloc (.cells #[.int .i64 p.k, .int .i64 p.n, .int .i64 p.m, .int .i64 p.c0, .int .i64 p.c1, .string p.t] 27)).alloc (.cells #[.int .i64 0, .int .i64 0, .int .i64 0, .int .i64 0, .int .i64 0, .int .i64 0, .int .i64 0, .int .i64 0] 25)) (w.heap.size + 1 + 1) (cS z8) := Box.of (alloc2_at _ _ _ _)
  have hW0 : Below w.heap.size w (((w.alloc (.cells #[.int .i64 s.a, .int .i64 s.u, .int .i64 s.f0, .int .i64 s.f1, .int .i64 s.b0, .int .i64 s.b1, .int .i64 s.l0, .int .i64 s.l1] 25)).alloc (.cells #[.int .i64 p.k, .int .i64 p.n, .int .i64 p.m, .int .i64 p.c0, .int .i64 p.c1, .string p.t] 27)).alloc (.cells #[.int .i64 0, .int .i64 0, .int .i64 0, .int .i64 0, .int .i64 0, .int .i64 0, .int .i64 0, .int .i64 0] 25)) := ((below_box w _).alloc (by simp) _).alloc (by simp; omega) _
  have hz0 : (((w.alloc (.cells #[.int .i64 s.a, .int .i64 s.u, .int .i64 s.f0, .int .i64 s.f1, .int .i64 s.b0, .int .i64 s.b1, .int .i64 s.l0, .int .i64 s.l1] 25)).alloc (.cells #[.int .i64 p.k, .int .i64 p.n, .int .i64 p.m, .int .i64 p.c0, .int .i64 p.c1, .string p.t] 27)).alloc (.cells #[.int .i64 0, .int .i64 0, .int .i64 0, .int .i64 0, .int .i64 0, .int .i64 0, .int .i64 0, .int .i64 0] 25)).heap.size = w.heap.size + 1 + 1 + 1 := by simp
  generalize ((w.alloc (.cells #[.int .i64 s.a, .int .i64 s.u, .int .i64 s.f0, .int .i64 s.f1, .int .i64 s.b0, .int .i64 s.b1, .int .i64 s.l0, .int .i64 s.l1] 25)).alloc (.cells #[.int .i64 p.k, .int .i64 p.n, .int .i64 p.m, .int .i64 p.c0, .int .i64 p.c1, .string p.t] 27)).alloc (.cells #[.int .i64 0, .int .i64 0, .int .i64 0, .int .i64 0, .int .i64 0, .int .i64 0, .int .i64 0, .int .i64 0] 25) = w1 at hC0 hW0 hz0 ⊢
  have hR := RdP.one w1 p 27
  rw [hz0] at hR
  have hC1 := hC0.alloc (.cells #[.int .i64 p.k, .int .i64 p.n, .int .i64 p.m, .int .i64 p.c0, .int .i64 p.c1, .string p.t] 27)
  have hW1 := hW0.alloc (by omega) (.cells #[.int .i64 p.k, .int .i64 p.n, .int .i64 p.m, .int .i64 p.c0, .int .i64 p.c1, .string p.t] 27)
  generalize w1.alloc (.cells #[.int .i64 p.k, .int .i64 p.n, .int .i64 p.m, .int .i64 p.c0, .int .i64 p.c1, .string p.t] 27) = w2 at hR hC1 hW1 ⊢
  clear hC0 hW0 hz0
  refine (rrun_t s _ [p] 1 1 rfl _ hR (by omega)).mono ?_
  rintro e w3 ⟨rfl, hb3⟩
  have hC3 := hC1.keep hb3
  have hW3 := Lib.hid (hW1.trans (hb3.mono hW1.size))
  have hlC := hC3.1
  have x0 := hC3.cell 0 _ rfl
  have v0 := hC3.free 0 (by show 0 < 8; decide)
  have x1 := hC3.cell 1 _ rfl
  have v1 := hC3.free 1 (by show 1 < 8; decide)
  have x2 := hC3.cell 2 _ rfl
  have v2 := hC3.free 2 (by show 2 < 8; decide)
  have x3 := hC3.cell 3 _ rfl
  have v3 := hC3.free 3 (by show 3 < 8; decide)
  have x4 := hC3.cell 4 _ rfl
  have v4 := hC3.free 4 (by show 4 < 8; decide)
  have x5 := hC3.cell 5 _ rfl
  have v5 := hC3.free 5 (by show 5 < 8; decide)
  have x6 := hC3.cell 6 _ rfl
  have v6 := hC3.free 6 (by show 6 < 8; decide)
  have x7 := hC3.cell 7 _ rfl
  have v7 := hC3.free 7 (by show 7 < 8; decide)
  have HC := Lib.hid hC3
  have Hf := Lib.hid (show runT s [p] = .tuple #[stV (runV s [p]), .int .i64 (runE s [p])] from rfl)
  clear hC1 hC3 hW1 hb3 hR
  generalize runV s [p] = r at Hf ⊢
  generalize runE s [p] = x at Hf ⊢
  go_wp2
  refine bodyPost_ret (ret_cell rfl _ _ ⟨w.heap.size + 1 + 1, 0, none⟩ _ rfl (load_sty _ _ r (put8 w3 _ r z8 HC.out))) rfl ?_
  exact ⟨by rw [Hf.out]; rfl, below8 _ r hW3.out (by omega)⟩
end Go.Proofs.YtokjjeekkfefmaaDoor.Sty
