/-
  The walk of the law StyleStays: it returns true, whatever its arguments; nothing that lay before the call has turned.
-/
import Derived.Test.YtokjjeekkfefmaaDoorStySt
import Derived.Test.YtokjjeekkfefmaaDoorStyleKnown
namespace Go.Proofs.YtokjjeekkfefmaaDoor.Sty
open Go.RowKit Utf Col

set_option maxRecDepth 100000 in
set_option maxHeartbeats 8000000 in
theorem stays_z (d0 d1 d2 d3 d4 d5 d6 d7 c0 c1 c2 c3 c4 c5 c6 c7 : Int) (s x y z : S8) (p q : P6) (hs : errS s = 0) (hp : okP p = true) (hq : okP q = true) (hx : app s p = x) (hy : app x q = y) (hz : app (app s q) p = z)
    (cS1 : Hid (∀ w, Calls Tryd.prog 10 #[.agg #[.int .u8 d0, .int .u8 d1, .int .u8 d2, .int .u8 d3, .int .u32 d4, .int .u32 d5, .int .u32 d6, .int .u32 d7]] w fun r w' => r = .returned (.agg #[.int .i64 s.a, .int .i64 s.u, .int .i64 s.f0, .int .i64 s.f1, .int .i64 s.b0, .int .i64 s.b1, .int .i64 s.l0, .int .i64 s.l1]) ∧ Below w.heap.size w w'))
    (cP1 : Hid (∀ w, Calls Tryd.prog 11 #[.agg #[.int .u8 d0, .int .u8 d1, .int .u8 d2, .int .u8 d3, .int .u32 d4, .int .u32 d5, .int .u32 d6, .int .u32 d7]] w fun r w' => r = .returned (.agg #[.int .i64 p.k, .int .i64 p.n, .int .i64 p.m, .int .i64 p.c0, .int .i64 p.c1, .string p.t]) ∧ Below w.heap.size w w'))
    (cP2 : Hid (∀ w, Calls Tryd.prog 11 #[.agg #[.int .u8 c0, .int .u8 c1, .int .u8 c2, .int .u8 c3, .int .u32 c4, .int .u32 c5, .int .u32 c6, .int .u32 c7]] w fun r w' => r = .returned (.agg #[.int .i64 q.k, .int .i64 q.n, .int .i64 q.m, .int .i64 q.c0, .int .i64 q.c1, .string q.t]) ∧ Below w.heap.size w w'))
    (w : World) (h : Tl w) : Calls Tryd.prog 6 #[.agg #[.int .u8 d0, .int .u8 d1, .int .u8 d2, .int .u8 d3, .int .u32 d4, .int .u32 d5, .int .u32 d6, .int .u32 d7], .agg #[.int .u8 c0, .int .u8 c1, .int .u8 c2, .int .u8 c3, .int .u32 c4, .int .u32 c5, .int .u32 c6, .int .u32 c7]] w fun e w' => e = .returned (.bool true) ∧ Below w.heap.size w w' := by
  have H := Lib.hid h; clear h
  have F1 := Lib.hid (run_one s p hs hp)
  have F2 := Lib.hid (run_two s p p hs hp hp)
  have F3 := Lib.hid (run_two s p q hs hp hq)
  have F4 := Lib.hid (run_two s q p hs hq hp)
  have Hs := Lib.hid hs
  have Hp := Lib.hid hp
  have Hq := Lib.hid hq
  have Hx := Lib.hid hx
  have Hy := Lib.hid hy
  have Hz := Lib.hid hz
  clear hs hp hq hx hy hz
  go_enter Tryd.func6, Tryd.ntmps6
  go_wp2_with fail
  have hA0 : Box ((w.alloc (.cells #[.int .u8 d0, .int .u8 d1, .int .u8 d2, .int .u8 d3, .int .u32 d4, .int .u32 d5, .int .u32 d6, .int .u32 d7] 31)).alloc (.cells #[.int .u8 c0, .int .u8 c1, .int .u8 c2, .int .u8 c3, .int .u32 c4, .int .u32 c5, .int .u32 c6, .int .u32 c7] 31)) w.heap.size [.int .u8 d0, .int .u8 d1, .int .u8 d2, .int .u8 d3, .int .u32 d4, .int .u32 d5, .int .u32 d6, .int .u32 d7] := (Box.new _ _ _).alloc _
  have hB0 : Box ((w.alloc (.cells #[.int .u8 d0, .int .u8 d1, .int .u8 d2, .int .u8 d3, .int .u32 d4, .int .u32 d5, .int .u32 d6, .int .u32 d7] 31)).alloc (.cells #[.int .u8 c0, .int .u8 c1, .int .u8 c2, .int .u8 c3, .int .u32 c4, .int .u32 c5, .int .u32 c6, .int .u32 c7] 31)) (w.heap.size + 1) [.int .u8 c0, .int .u8 c1, .int .u8 c2, .int .u8 c3, .int .u32 c4, .int .u32 c5, .int .u32 c6, .int .u32 c7] := Box.of (alloc1_at _ _ _)
  have hW0 : Below w.heap.size w ((w.alloc (.cells #[.int .u8 d0, .int .u8 d1, .int .u8 d2, .int .u8 d3, .int .u32 d4, .int .u32 d5, .int .u32 d6, .int .u32 d7] 31)).alloc (.cells #[.int .u8 c0, .int .u8 c1, .int .u8 c2, .int .u8 c3, .int .u32 c4, .int .u32 c5, .int .u32 c6, .int .u32 c7] 31)) := two_boxes w _ _
  generalize (w.alloc (.cells #[.int .u8 d0, .int .u8 d1, .int .u8 d2, .int .u8 d3, .int .u32 d4, .int .u32 d5, .int .u32 d6, .int .u32 d7] 31)).alloc (.cells #[.int .u8 c0, .int .u8 c1, .int .u8 c2, .int .u8 c3, .int .u32 c4, .int .u32 c5, .int .u32 c6, .int .u32 c7] 31) = w1 at hA0 hB0 hW0 ⊢
  generalize w.heap.size + 1 = B at hB0 ⊢
  generalize w.heap.size = A at hA0 ⊢
  refine (works_any _ ((H.out).keep hW0)).mono ?_
  rintro e w2 ⟨rfl, hb2⟩
  have hA2 := hA0.keep hb2
  have hB2 := hB0.keep hb2
  have HW2 := Lib.hid (hW0.trans (hb2.mono hW0.size))
  clear hb2 hA0 hB0 hW0
  go_wp2_with fail
  refine regionT d0 d1 d2 d3 d4 d5 d6 d7 c0 c1 c2 c3 c4 c5 c6 c7 A B s p q w2 hA2 hB2 cS1 cP1 cP2 (Lib.hid ?_)
  intro B5 B6 B7 w3 hW3 g5 g6 g7 n56 n57 n67 h5 h6 h7
  have HW3 := Lib.hid (HW2.out.trans (hW3.mono HW2.out.size))
  clear hW3 g5 g6 g7 hA2 hB2 n56 n57 n67
  unfold actT
  have l5 := h5.1
  have x5_0 := h5.cell 0 _ rfl
  have x5_1 := h5.cell 1 _ rfl
  have x5_2 := h5.cell 2 _ rfl
  have x5_3 := h5.cell 3 _ rfl
  have x5_4 := h5.cell 4 _ rfl
  have x5_5 := h5.cell 5 _ rfl
  have x5_6 := h5.cell 6 _ rfl
  have x5_7 := h5.cell 7 _ rfl
  have l6 := h6.1
  have x6_0 := h6.cell 0 _ rfl
  have x6_1 := h6.cell 1 _ rfl
  have x6_2 := h6.cell 2 _ rfl
  have x6_3 := h6.cell 3 _ rfl
  have x6_4 := h6.cell 4 _ rfl
  have x6_5 := h6.cell 5 _ rfl
  go_wp2_with fail
  refine (apply_is s p x 0 (F1.out.1.trans Hx.out) F1.out.2 _ ((H.out).keep HW3.out)).mono ?_
  rintro e wn ⟨rfl, hb⟩
  clear l5 x5_0 x5_1 x5_2 x5_3 x5_4 x5_5 x5_6 x5_7
  clear l6 x6_0 x6_1 x6_2 x6_3 x6_4 x6_5
  have h5 := h5.keep hb
  have h6 := h6.keep hb
  have h7 := h7.keep hb
  have HW3 := Lib.hid (HW3.out.trans (hb.mono HW3.out.size))
  clear hb
  have l5 := h5.1
  have x5_0 := h5.cell 0 _ rfl
  have x5_1 := h5.cell 1 _ rfl
  have x5_2 := h5.cell 2 _ rfl
  have x5_3 := h5.cell 3 _ rfl
  have x5_4 := h5.cell 4 _ rfl
  have x5_5 := h5.cell 5 _ rfl
  have x5_6 := h5.cell 6 _ rfl
  have x5_7 := h5.cell 7 _ rfl
  have l6 := h6.1
  have x6_0 := h6.cell 0 _ rfl
  have x6_1 := h6.cell 1 _ rfl
  have x6_2 := h6.cell 2 _ rfl
  have x6_3 := h6.cell 3 _ rfl
  have x6_4 := h6.cell 4 _ rfl
  have x6_5 := h6.cell 5 _ rfl
  go_wp2_with fail
  clear l5 x5_0 x5_1 x5_2 x5_3 x5_4 x5_5 x5_6 x5_7
  clear l6 x6_0 x6_1 x6_2 x6_3 x6_4 x6_5
  have h8 : Box ((wn.alloc (.cells #[.int .i64 x.a, .int .i64 x.u, .int .i64 x.f0, .int .i64 x.f1, .int .i64 x.b0, .int .i64 x.b1, .int .i64 x.l0, .int .i64 x.l1] 25)).alloc (.cells #[.int .i64 p.k, .int .i64 p.n, .int .i64 p.m, .int .i64 p.c0, .int .i64 p.c1, .string p.t, .int .i64 p.k, .int .i64 p.n, .int .i64 p.m, .int .i64 p.c0, .int .i64 p.c1, .string p.t] 27)) wn.heap.size (cS x) := (Box.new _ _ _).alloc _
  have hR := RdP.lay (wn.alloc (.cells #[.int .i64 x.a, .int .i64 x.u, .int .i64 x.f0, .int .i64 x.f1, .int .i64 x.b0, .int .i64 x.b1, .int .i64 x.l0, .int .i64 x.l1] 25)) [p, p] #[.int .i64 p.k, .int .i64 p.n, .int .i64 p.m, .int .i64 p.c0, .int .i64 p.c1, .string p.t, .int .i64 p.k, .int .i64 p.n, .int .i64 p.m, .int .i64 p.c0, .int .i64 p.c1, .string p.t] 27 rfl
  rw [show (wn.alloc (.cells #[.int .i64 x.a, .int .i64 x.u, .int .i64 x.f0, .int .i64 x.f1, .int .i64 x.b0, .int .i64 x.b1, .int .i64 x.l0, .int .i64 x.l1] 25)).heap.size = wn.heap.size + 1 by simp] at hR
  have h5 := (h5.alloc (.cells #[.int .i64 x.a, .int .i64 x.u, .int .i64 x.f0, .int .i64 x.f1, .int .i64 x.b0, .int .i64 x.b1, .int .i64 x.l0, .int .i64 x.l1] 25)).alloc (.cells #[.int .i64 p.k, .int .i64 p.n, .int .i64 p.m, .int .i64 p.c0, .int .i64 p.c1, .string p.t, .int .i64 p.k, .int .i64 p.n, .int .i64 p.m, .int .i64 p.c0, .int .i64 p.c1, .string p.t] 27)
  have h6 := (h6.alloc (.cells #[.int .i64 x.a, .int .i64 x.u, .int .i64 x.f0, .int .i64 x.f1, .int .i64 x.b0, .int .i64 x.b1, .int .i64 x.l0, .int .i64 x.l1] 25)).alloc (.cells #[.int .i64 p.k, .int .i64 p.n, .int .i64 p.m, .int .i64 p.c0, .int .i64 p.c1, .string p.t, .int .i64 p.k, .int .i64 p.n, .int .i64 p.m, .int .i64 p.c0, .int .i64 p.c1, .string p.t] 27)
  have h7 := (h7.alloc (.cells #[.int .i64 x.a, .int .i64 x.u, .int .i64 x.f0, .int .i64 x.f1, .int .i64 x.b0, .int .i64 x.b1, .int .i64 x.l0, .int .i64 x.l1] 25)).alloc (.cells #[.int .i64 p.k, .int .i64 p.n, .int .i64 p.m, .int .i64 p.c0, .int .i64 p.c1, .string p.t, .int .i64 p.k, .int .i64 p.n, .int .i64 p.m, .int .i64 p.c0, .int .i64 p.c1, .string p.t] 27)
  have hV := (HW3.out.alloc HW3.out.size (.cells #[.int .i64 x.a, .int .i64 x.u, .int .i64 x.f0, .int .i64 x.f1, .int .i64 x.b0, .int .i64 x.b1, .int .i64 x.l0, .int .i64 x.l1] 25)).alloc (HW3.out.alloc HW3.out.size (.cells #[.int .i64 x.a, .int .i64 x.u, .int .i64 x.f0, .int .i64 x.f1, .int .i64 x.b0, .int .i64 x.b1, .int .i64 x.l0, .int .i64 x.l1] 25)).size (.cells #[.int .i64 p.k, .int .i64 p.n, .int .i64 p.m, .int .i64 p.c0, .int .i64 p.c1, .string p.t, .int .i64 p.k, .int .i64 p.n, .int .i64 p.m, .int .i64 p.c0, .int .i64 p.c1, .string p.t] 27)
  generalize (wn.alloc (.cells #[.int .i64 x.a, .int .i64 x.u, .int .i64 x.f0, .int .i64 x.f1, .int .i64 x.b0, .int .i64 x.b1, .int .i64 x.l0, .int .i64 x.l1] 25)).alloc (.cells #[.int .i64 p.k, .int .i64 p.n, .int .i64 p.m, .int .i64 p.c0, .int .i64 p.c1, .string p.t, .int .i64 p.k, .int .i64 p.n, .int .i64 p.m, .int .i64 p.c0, .int .i64 p.c1, .string p.t] 27) = wm at hR hV h5 h6 h7 h8 ⊢
  generalize wn.heap.size + 1 = R8 at hR ⊢
  generalize wn.heap.size = B8_ at h8 ⊢
  have HW3 := Lib.hid hV
  clear hV
  refine (run_is s _ [p, p] 2 2 rfl x 0 (F2.out.1.trans ((app_twice s p Hp.out (errS_range s Hs.out).1 (errS_range s Hs.out).2).trans Hx.out)) F2.out.2 _ ((H.out).keep HW3.out) hR (by omega)).mono ?_
  rintro e wn ⟨rfl, hb⟩
  have h5 := h5.keep hb
  have h6 := h6.keep hb
  have h7 := h7.keep hb
  have h8 := h8.keep hb
  have HW3 := Lib.hid (HW3.out.trans (hb.mono HW3.out.size))
  clear hb
  clear hR
  have l5 := h5.1
  have x5_0 := h5.cell 0 _ rfl
  have x5_1 := h5.cell 1 _ rfl
  have x5_2 := h5.cell 2 _ rfl
  have x5_3 := h5.cell 3 _ rfl
  have x5_4 := h5.cell 4 _ rfl
  have x5_5 := h5.cell 5 _ rfl
  have x5_6 := h5.cell 6 _ rfl
  have x5_7 := h5.cell 7 _ rfl
  go_wp2_with fail
  clear l5 x5_0 x5_1 x5_2 x5_3 x5_4 x5_5 x5_6 x5_7
  have h10 : Box (wn.alloc (.cells #[.int .i64 x.a, .int .i64 x.u, .int .i64 x.f0, .int .i64 x.f1, .int .i64 x.b0, .int .i64 x.b1, .int .i64 x.l0, .int .i64 x.l1] 25)) wn.heap.size (cS x) := Box.new _ _ _
  have h5 := h5.alloc (.cells #[.int .i64 x.a, .int .i64 x.u, .int .i64 x.f0, .int .i64 x.f1, .int .i64 x.b0, .int .i64 x.b1, .int .i64 x.l0, .int .i64 x.l1] 25)
  have h6 := h6.alloc (.cells #[.int .i64 x.a, .int .i64 x.u, .int .i64 x.f0, .int .i64 x.f1, .int .i64 x.b0, .int .i64 x.b1, .int .i64 x.l0, .int .i64 x.l1] 25)
  have h7 := h7.alloc (.cells #[.int .i64 x.a, .int .i64 x.u, .int .i64 x.f0, .int .i64 x.f1, .int .i64 x.b0, .int .i64 x.b1, .int .i64 x.l0, .int .i64 x.l1] 25)
  have h8 := h8.alloc (.cells #[.int .i64 x.a, .int .i64 x.u, .int .i64 x.f0, .int .i64 x.f1, .int .i64 x.b0, .int .i64 x.b1, .int .i64 x.l0, .int .i64 x.l1] 25)
  have hV := HW3.out.alloc HW3.out.size (.cells #[.int .i64 x.a, .int .i64 x.u, .int .i64 x.f0, .int .i64 x.f1, .int .i64 x.b0, .int .i64 x.b1, .int .i64 x.l0, .int .i64 x.l1] 25)
  generalize wn.alloc (.cells #[.int .i64 x.a, .int .i64 x.u, .int .i64 x.f0, .int .i64 x.f1, .int .i64 x.b0, .int .i64 x.b1, .int .i64 x.l0, .int .i64 x.l1] 25) = wm at hV h5 h6 h7 h8 h10 ⊢
  generalize wn.heap.size = B10_ at h10 ⊢
  have HW3 := Lib.hid hV
  clear hV
  refine (check_is s 0 Hs.out _ ((H.out).keep HW3.out)).mono ?_
  rintro e wn ⟨rfl, hb⟩
  have h5 := h5.keep hb
  have h6 := h6.keep hb
  have h7 := h7.keep hb
  have h8 := h8.keep hb
  have h10 := h10.keep hb
  have HW3 := Lib.hid (HW3.out.trans (hb.mono HW3.out.size))
  clear hb
  have l6 := h6.1
  have x6_0 := h6.cell 0 _ rfl
  have x6_1 := h6.cell 1 _ rfl
  have x6_2 := h6.cell 2 _ rfl
  have x6_3 := h6.cell 3 _ rfl
  have x6_4 := h6.cell 4 _ rfl
  have x6_5 := h6.cell 5 _ rfl
  go_wp2_with fail
  refine (checkPen_is p 0 (by unfold errP; rw [Hp.out]; rfl) _ ((H.out).keep HW3.out)).mono ?_
  rintro e wn ⟨rfl, hb⟩
  clear l6 x6_0 x6_1 x6_2 x6_3 x6_4 x6_5
  have h5 := h5.keep hb
  have h6 := h6.keep hb
  have h7 := h7.keep hb
  have h8 := h8.keep hb
  have h10 := h10.keep hb
  have HW3 := Lib.hid (HW3.out.trans (hb.mono HW3.out.size))
  clear hb
  have l8 := h8.1
  have x8_0 := h8.cell 0 _ rfl
  have x8_1 := h8.cell 1 _ rfl
  have x8_2 := h8.cell 2 _ rfl
  have x8_3 := h8.cell 3 _ rfl
  have x8_4 := h8.cell 4 _ rfl
  have x8_5 := h8.cell 5 _ rfl
  have x8_6 := h8.cell 6 _ rfl
  have x8_7 := h8.cell 7 _ rfl
  have l10 := h10.1
  have x10_0 := h10.cell 0 _ rfl
  have x10_1 := h10.cell 1 _ rfl
  have x10_2 := h10.cell 2 _ rfl
  have x10_3 := h10.cell 3 _ rfl
  have x10_4 := h10.cell 4 _ rfl
  have x10_5 := h10.cell 5 _ rfl
  have x10_6 := h10.cell 6 _ rfl
  have x10_7 := h10.cell 7 _ rfl
  have e1 : ∀ W, (binOp .neq 25 (.agg #[.int .i64 x.a, .int .i64 x.u, .int .i64 x.f0, .int .i64 x.f1, .int .i64 x.b0, .int .i64 x.b1, .int .i64 x.l0, .int .i64 x.l1]) (.agg #[.int .i64 x.a, .int .i64 x.u, .int .i64 x.f0, .int .i64 x.f1, .int .i64 x.b0, .int .i64 x.b1, .int .i64 x.l0, .int .i64 x.l1])).run Tryd.prog W = .ok (.bool false) W := fun W => by rw [neqS, eqS_self]; rfl
  go_wp2_with fail
  refine (check_is x 0 (by rw [← Hx.out]; exact errS_app s p Hp.out Hs.out) _ ((H.out).keep HW3.out)).mono ?_
  rintro e wn ⟨rfl, hb⟩
  clear l8 x8_0 x8_1 x8_2 x8_3 x8_4 x8_5 x8_6 x8_7
  clear l10 x10_0 x10_1 x10_2 x10_3 x10_4 x10_5 x10_6 x10_7
  have h5 := h5.keep hb
  have h6 := h6.keep hb
  have h7 := h7.keep hb
  have h8 := h8.keep hb
  have h10 := h10.keep hb
  have HW3 := Lib.hid (HW3.out.trans (hb.mono HW3.out.size))
  clear hb
  clear e1
  have l5 := h5.1
  have x5_0 := h5.cell 0 _ rfl
  have x5_1 := h5.cell 1 _ rfl
  have x5_2 := h5.cell 2 _ rfl
  have x5_3 := h5.cell 3 _ rfl
  have x5_4 := h5.cell 4 _ rfl
  have x5_5 := h5.cell 5 _ rfl
  have x5_6 := h5.cell 6 _ rfl
  have x5_7 := h5.cell 7 _ rfl
  have l6 := h6.1
  have x6_0 := h6.cell 0 _ rfl
  have x6_1 := h6.cell 1 _ rfl
  have x6_2 := h6.cell 2 _ rfl
  have x6_3 := h6.cell 3 _ rfl
  have x6_4 := h6.cell 4 _ rfl
  have x6_5 := h6.cell 5 _ rfl
  have l7 := h7.1
  have x7_0 := h7.cell 0 _ rfl
  have x7_1 := h7.cell 1 _ rfl
  have x7_2 := h7.cell 2 _ rfl
  have x7_3 := h7.cell 3 _ rfl
  have x7_4 := h7.cell 4 _ rfl
  have x7_5 := h7.cell 5 _ rfl
  go_wp2_with fail
  clear l5 x5_0 x5_1 x5_2 x5_3 x5_4 x5_5 x5_6 x5_7
  clear l6 x6_0 x6_1 x6_2 x6_3 x6_4 x6_5
  clear l7 x7_0 x7_1 x7_2 x7_3 x7_4 x7_5
  have hR := RdP.lay wn [p, q] #[.int .i64 p.k, .int .i64 p.n, .int .i64 p.m, .int .i64 p.c0, .int .i64 p.c1, .string p.t, .int .i64 q.k, .int .i64 q.n, .int .i64 q.m, .int .i64 q.c0, .int .i64 q.c1, .string q.t] 27 rfl
  have h5 := h5.alloc (.cells #[.int .i64 p.k, .int .i64 p.n, .int .i64 p.m, .int .i64 p.c0, .int .i64 p.c1, .string p.t, .int .i64 q.k, .int .i64 q.n, .int .i64 q.m, .int .i64 q.c0, .int .i64 q.c1, .string q.t] 27)
  have h6 := h6.alloc (.cells #[.int .i64 p.k, .int .i64 p.n, .int .i64 p.m, .int .i64 p.c0, .int .i64 p.c1, .string p.t, .int .i64 q.k, .int .i64 q.n, .int .i64 q.m, .int .i64 q.c0, .int .i64 q.c1, .string q.t] 27)
  have h7 := h7.alloc (.cells #[.int .i64 p.k, .int .i64 p.n, .int .i64 p.m, .int .i64 p.c0, .int .i64 p.c1, .string p.t, .int .i64 q.k, .int .i64 q.n, .int .i64 q.m, .int .i64 q.c0, .int .i64 q.c1, .string q.t] 27)
  have h8 := h8.alloc (.cells #[.int .i64 p.k, .int .i64 p.n, .int .i64 p.m, .int .i64 p.c0, .int .i64 p.c1, .string p.t, .int .i64 q.k, .int .i64 q.n, .int .i64 q.m, .int .i64 q.c0, .int .i64 q.c1, .string q.t] 27)
  have h10 := h10.alloc (.cells #[.int .i64 p.k, .int .i64 p.n, .int .i64 p.m, .int .i64 p.c0, .int .i64 p.c1, .string p.t, .int .i64 q.k, .int .i64 q.n, .int .i64 q.m, .int .i64 q.c0, .int .i64 q.c1, .string q.t] 27)
  have hV := HW3.out.alloc HW3.out.size (.cells #[.int .i64 p.k, .int .i64 p.n, .int .i64 p.m, .int .i64 p.c0, .int .i64 p.c1, .string p.t, .int .i64 q.k, .int .i64 q.n, .int .i64 q.m, .int .i64 q.c0, .int .i64 q.c1, .string q.t] 27)
  generalize wn.alloc (.cells #[.int .i64 p.k, .int .i64 p.n, .int .i64 p.m, .int .i64 p.c0, .int .i64 p.c1, .string p.t, .int .i64 q.k, .int .i64 q.n, .int .i64 q.m, .int .i64 q.c0, .int .i64 q.c1, .string q.t] 27) = wm at hR hV h5 h6 h7 h8 h10 ⊢
  generalize wn.heap.size = RR at hR ⊢
  have HW3 := Lib.hid hV
  clear hV
  refine (run_is s _ [p, q] 2 2 rfl y 0 (F3.out.1.trans (by rw [Hx.out, Hy.out])) F3.out.2 _ ((H.out).keep HW3.out) hR (by omega)).mono ?_
  rintro e wn ⟨rfl, hb⟩
  have h5 := h5.keep hb
  have h6 := h6.keep hb
  have h7 := h7.keep hb
  have h8 := h8.keep hb
  have h10 := h10.keep hb
  have HW3 := Lib.hid (HW3.out.trans (hb.mono HW3.out.size))
  clear hb
  clear hR
  have l5 := h5.1
  have x5_0 := h5.cell 0 _ rfl
  have x5_1 := h5.cell 1 _ rfl
  have x5_2 := h5.cell 2 _ rfl
  have x5_3 := h5.cell 3 _ rfl
  have x5_4 := h5.cell 4 _ rfl
  have x5_5 := h5.cell 5 _ rfl
  have x5_6 := h5.cell 6 _ rfl
  have x5_7 := h5.cell 7 _ rfl
  have l6 := h6.1
  have x6_0 := h6.cell 0 _ rfl
  have x6_1 := h6.cell 1 _ rfl
  have x6_2 := h6.cell 2 _ rfl
  have x6_3 := h6.cell 3 _ rfl
  have x6_4 := h6.cell 4 _ rfl
  have x6_5 := h6.cell 5 _ rfl
  have l7 := h7.1
  have x7_0 := h7.cell 0 _ rfl
  have x7_1 := h7.cell 1 _ rfl
  have x7_2 := h7.cell 2 _ rfl
  have x7_3 := h7.cell 3 _ rfl
  have x7_4 := h7.cell 4 _ rfl
  have x7_5 := h7.cell 5 _ rfl
  go_wp2_with fail
  clear l5 x5_0 x5_1 x5_2 x5_3 x5_4 x5_5 x5_6 x5_7
  clear l6 x6_0 x6_1 x6_2 x6_3 x6_4 x6_5
  clear l7 x7_0 x7_1 x7_2 x7_3 x7_4 x7_5
  have h12 : Box ((wn.alloc (.cells #[.int .i64 y.a, .int .i64 y.u, .int .i64 y.f0, .int .i64 y.f1, .int .i64 y.b0, .int .i64 y.b1, .int .i64 y.l0, .int .i64 y.l1] 25)).alloc (.cells #[.int .i64 q.k, .int .i64 q.n, .int .i64 q.m, .int .i64 q.c0, .int .i64 q.c1, .string q.t, .int .i64 p.k, .int .i64 p.n, .int .i64 p.m, .int .i64 p.c0, .int .i64 p.c1, .string p.t] 27)) wn.heap.size (cS y) := (Box.new _ _ _).alloc _
  have hR := RdP.lay (wn.alloc (.cells #[.int .i64 y.a, .int .i64 y.u, .int .i64 y.f0, .int .i64 y.f1, .int .i64 y.b0, .int .i64 y.b1, .int .i64 y.l0, .int .i64 y.l1] 25)) [q, p] #[.int .i64 q.k, .int .i64 q.n, .int .i64 q.m, .int .i64 q.c0, .int .i64 q.c1, .string q.t, .int .i64 p.k, .int .i64 p.n, .int .i64 p.m, .int .i64 p.c0, .int .i64 p.c1, .string p.t] 27 rfl
  rw [show (wn.alloc (.cells #[.int .i64 y.a, .int .i64 y.u, .int .i64 y.f0, .int .i64 y.f1, .int .i64 y.b0, .int .i64 y.b1, .int .i64 y.l0, .int .i64 y.l1] 25)).heap.size = wn.heap.size + 1 by simp] at hR
  have h5 := (h5.alloc (.cells #[.int .i64 y.a, .int .i64 y.u, .int .i64 y.f0, .int .i64 y.f1, .int .i64 y.b0, .int .i64 y.b1, .int .i64 y.l0, .int .i64 y.l1] 25)).alloc (.cells #[.int .i64 q.k, .int .i64 q.n, .int .i64 q.m, .int .i64 q.c0, .int .i64 q.c1, .string q.t, .int .i64 p.k, .int .i64 p.n, .int .i64 p.m, .int .i64 p.c0, .int .i64 p.c1, .string p.t] 27)
  have h6 := (h6.alloc (.cells #[.int .i64 y.a, .int .i64 y.u, .int .i64 y.f0, .int .i64 y.f1, .int .i64 y.b0, .int .i64 y.b1, .int .i64 y.l0, .int .i64 y.l1] 25)).alloc (.cells #[.int .i64 q.k, .int .i64 q.n, .int .i64 q.m, .int .i64 q.c0, .int .i64 q.c1, .string q.t, .int .i64 p.k, .int .i64 p.n, .int .i64 p.m, .int .i64 p.c0, .int .i64 p.c1, .string p.t] 27)
  have h7 := (h7.alloc (.cells #[.int .i64 y.a, .int .i64 y.u, .int .i64 y.f0, .int .i64 y.f1, .int .i64 y.b0, .int .i64 y.b1, .int .i64 y.l0, .int .i64 y.l1] 25)).alloc (.cells #[.int .i64 q.k, .int .i64 q.n, .int .i64 q.m, .int .i64 q.c0, .int .i64 q.c1, .string q.t, .int .i64 p.k, .int .i64 p.n, .int .i64 p.m, .int .i64 p.c0, .int .i64 p.c1, .string p.t] 27)
  have h8 := (h8.alloc (.cells #[.int .i64 y.a, .int .i64 y.u, .int .i64 y.f0, .int .i64 y.f1, .int .i64 y.b0, .int .i64 y.b1, .int .i64 y.l0, .int .i64 y.l1] 25)).alloc (.cells #[.int .i64 q.k, .int .i64 q.n, .int .i64 q.m, .int .i64 q.c0, .int .i64 q.c1, .string q.t, .int .i64 p.k, .int .i64 p.n, .int .i64 p.m, .int .i64 p.c0, .int .i64 p.c1, .string p.t] 27)
  have h10 := (h10.alloc (.cells #[.int .i64 y.a, .int .i64 y.u, .int .i64 y.f0, .int .i64 y.f1, .int .i64 y.b0, .int .i64 y.b1, .int .i64 y.l0, .int .i64 y.l1] 25)).alloc (.cells #[.int .i64 q.k, .int .i64 q.n, .int .i64 q.m, .int .i64 q.c0, .int .i64 q.c1, .string q.t, .int .i64 p.k, .int .i64 p.n, .int .i64 p.m, .int .i64 p.c0, .int .i64 p.c1, .string p.t] 27)
  have hV := (HW3.out.alloc HW3.out.size (.cells #[.int .i64 y.a, .int .i64 y.u, .int .i64 y.f0, .int .i64 y.f1, .int .i64 y.b0, .int .i64 y.b1, .int .i64 y.l0, .int .i64 y.l1] 25)).alloc (HW3.out.alloc HW3.out.size (.cells #[.int .i64 y.a, .int .i64 y.u, .int .i64 y.f0, .int .i64 y.f1, .int .i64 y.b0, .int .i64 y.b1, .int .i64 y.l0, .int .i64 y.l1] 25)).size (.cells #[.int .i64 q.k, .int .i64 q.n, .int .i64 q.m, .int .i64 q.c0, .int .i64 q.c1, .string q.t, .int .i64 p.k, .int .i64 p.n, .int .i64 p.m, .int .i64 p.c0, .int .i64 p.c1, .string p.t] 27)
  generalize (wn.alloc (.cells #[.int .i64 y.a, .int .i64 y.u, .int .i64 y.f0, .int .i64 y.f1, .int .i64 y.b0, .int .i64 y.b1, .int .i64 y.l0, .int .i64 y.l1] 25)).alloc (.cells #[.int .i64 q.k, .int .i64 q.n, .int .i64 q.m, .int .i64 q.c0, .int .i64 q.c1, .string q.t, .int .i64 p.k, .int .i64 p.n, .int .i64 p.m, .int .i64 p.c0, .int .i64 p.c1, .string p.t] 27) = wm at hR hV h5 h6 h7 h8 h10 h12 ⊢
  generalize wn.heap.size + 1 = R12 at hR ⊢
  generalize wn.heap.size = B12_ at h12 ⊢
  have HW3 := Lib.hid hV
  clear hV
  refine (run_is s _ [q, p] 2 2 rfl z 0 (F4.out.1.trans Hz.out) F4.out.2 _ ((H.out).keep HW3.out) hR (by omega)).mono ?_
  rintro e wn ⟨rfl, hb⟩
  have h5 := h5.keep hb
  have h6 := h6.keep hb
  have h7 := h7.keep hb
  have h8 := h8.keep hb
  have h10 := h10.keep hb
  have h12 := h12.keep hb
  have HW3 := Lib.hid (HW3.out.trans (hb.mono HW3.out.size))
  clear hb
  clear hR
  have l6 := h6.1
  have x6_0 := h6.cell 0 _ rfl
  have x6_1 := h6.cell 1 _ rfl
  have x6_2 := h6.cell 2 _ rfl
  have x6_3 := h6.cell 3 _ rfl
  have x6_4 := h6.cell 4 _ rfl
  have x6_5 := h6.cell 5 _ rfl
  have l7 := h7.1
  have x7_0 := h7.cell 0 _ rfl
  have x7_1 := h7.cell 1 _ rfl
  have x7_2 := h7.cell 2 _ rfl
  have x7_3 := h7.cell 3 _ rfl
  have x7_4 := h7.cell 4 _ rfl
  have x7_5 := h7.cell 5 _ rfl
  have l12 := h12.1
  have x12_0 := h12.cell 0 _ rfl
  have x12_1 := h12.cell 1 _ rfl
  have x12_2 := h12.cell 2 _ rfl
  have x12_3 := h12.cell 3 _ rfl
  have x12_4 := h12.cell 4 _ rfl
  have x12_5 := h12.cell 5 _ rfl
  have x12_6 := h12.cell 6 _ rfl
  have x12_7 := h12.cell 7 _ rfl
  have HE := Lib.hid (show p.n ≠ q.n → ¬ (p.n ≤ 2 ∧ q.n ≤ 2) → p.n ≠ 0 → q.n ≠ 0 → eqS y z = true from fun a1 a2 a3 a4 => by
    have := app_swap s p q Hp.out Hq.out a1 a2 a3 a4
    rw [Hx.out, Hy.out, Hz.out] at this
    rw [this, eqS_self])
  have e9 := fun W => eqlS y.a y.u y.f0 y.f1 y.b0 y.b1 y.l0 y.l1 z.a z.u z.f0 z.f1 z.b0 z.b1 z.l0 z.l1 W
  have HF := Lib.hid (HW3.out.alloc HW3.out.size (.cells #[.int .i64 z.a, .int .i64 z.u, .int .i64 z.f0, .int .i64 z.f1, .int .i64 z.b0, .int .i64 z.b1, .int .i64 z.l0, .int .i64 z.l1] 25))
  clear h5 h6 h7 h8 h10 h12
  generalize hyz : eqS y z = b9 at HE e9
  clear hyz
  obtain ⟨a9, ha9⟩ : ∃ a, p.n = a := ⟨_, rfl⟩
  obtain ⟨c9, hc9⟩ : ∃ a, q.n = a := ⟨_, rfl⟩
  rw [ha9, hc9] at HE
  rw [ha9] at x6_1
  rw [hc9] at x7_1
  clear ha9 hc9
  have g : ¬ (a9 ≤ 2 ∧ c9 ≤ 2) → (!(a9 != c9) || !(a9 != 0) || !(c9 != 0) || b9) = true := by
    intro ha
    by_cases h3 : a9 = c9
    · simp [h3]
    by_cases h4 : a9 = 0
    · simp [h4]
    by_cases h5 : c9 = 0
    · simp [h5]
    have := HE.out h3 ha h4 h5
    simp [this]
  have G := Lib.hid g
  clear g HE
  by_cases h1 : a9 ≤ 2 <;> by_cases h2 : c9 ≤ 2
  all_goals
    first
      | (have G' := Lib.hid (G.out (by omega))
         have G2 : (!(a9 != c9) || decide (c9 ≤ 2) || !(a9 != 0) || !(c9 != 0) || b9) = true := by
           have h := G'.out
           simp only [Bool.or_eq_true] at h ⊢
           rcases h with ((h | h) | h) | h <;> simp only [h, true_or, or_true]
         have G2 := Lib.hid G2
         clear G)
      | skip
    go_wp2_with fail
    all_goals
      go_ret
      first
        | exact ⟨rfl, HF.out⟩
        | exact ⟨congrArg (fun b => Ending.returned (Value.bool b)) G'.out, HF.out⟩
        | exact ⟨congrArg (fun b => Ending.returned (Value.bool b)) G2.out, HF.out⟩
theorem stays_any (d d2 : D8) (w : World) (h : Tl w) : Calls Tryd.prog 6 #[.agg #[.int .u8 (d.a.toNat : Int), .int .u8 (d.u.toNat : Int), .int .u8 (d.w.toNat : Int), .int .u8 (d.m.toNat : Int), .int .u32 (d.e0.toNat : Int), .int .u32 (d.e1.toNat : Int), .int .u32 (d.e2.toNat : Int), .int .u32 (d.e3.toNat : Int)], .agg #[.int .u8 (d2.a.toNat : Int), .int .u8 (d2.u.toNat : Int), .int .u8 (d2.w.toNat : Int), .int .u8 (d2.m.toNat : Int), .int .u32 (d2.e0.toNat : Int), .int .u32 (d2.e1.toNat : Int), .int .u32 (d2.e2.toNat : Int), .int .u32 (d2.e3.toNat : Int)]] w fun e w' => e = .returned (.bool true) ∧ Below w.heap.size w w' :=
  stays_z _ _ _ _ _ _ _ _ _ _ _ _ _ _ _ _ (styD d) _ _ _ (penD d) (penD d2) (styD_ok d) (penD_ok d) (penD_ok d2) rfl rfl rfl (Lib.hid fun w => style_any d w) (Lib.hid fun w => pen_any d w) (Lib.hid fun w => pen_any d2 w) w h
end Go.Proofs.YtokjjeekkfefmaaDoor.Sty
