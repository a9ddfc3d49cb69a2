/-
  The walk of the law StyleSeen: it returns true, whatever its arguments; nothing that lay before the call has turned.
-/
import Derived.Test.YtokjjeekkfefmaaDoorStyP
namespace Go.Proofs.YtokjjeekkfefmaaDoor.Sty
open Go.RowKit Utf Col

theorem inverse_x (a u f0 f1 b0 b1 l0 l1 x : Int) (h : bits .xor .i64 a 16 = x) (w : World) : Calls Tryd.prog 23 #[.agg #[.int .i64 a, .int .i64 u, .int .i64 f0, .int .i64 f1, .int .i64 b0, .int .i64 b1, .int .i64 l0, .int .i64 l1]] w fun e w' =>
    e = .returned (.agg #[.int .i64 x, .int .i64 u, .int .i64 f0, .int .i64 f1, .int .i64 b0, .int .i64 b1, .int .i64 l0, .int .i64 l1]) ∧ Below w.heap.size w w' := by
  subst h; exact inverse_any a u f0 f1 b0 b1 l0 l1 w
theorem rseen_is (a u f0 f1 b0 b1 l0 l1 x0 x1 y0 y1 : Int) (h : seen ⟨a, u, f0, f1, b0, b1, l0, l1⟩ = (x0, x1, y0, y1)) (w : World) : Calls Tryd.prog 22 #[.agg #[.int .i64 a, .int .i64 u, .int .i64 f0, .int .i64 f1, .int .i64 b0, .int .i64 b1, .int .i64 l0, .int .i64 l1]] w fun e w' =>
    e = .returned (.tuple #[.agg #[.int .i64 x0, .int .i64 x1], .agg #[.int .i64 y0, .int .i64 y1]]) ∧ Below w.heap.size w w' := by
  have := rseen_any a u f0 f1 b0 b1 l0 l1 w
  rw [h] at this
  exact this
set_option maxRecDepth 100000 in
set_option maxHeartbeats 8000000 in
theorem seen_z (a u f0 f1 b0 b1 l0 l1 z0 z1 z2 z3 z4 z5 z6 z7 ar ur f0r f1r b0r b1r l0r l1r : Int)
    (cd : Hid (∀ w, Calls Tryd.prog 10 #[.agg #[.int .u8 z0, .int .u8 z1, .int .u8 z2, .int .u8 z3, .int .u32 z4, .int .u32 z5, .int .u32 z6, .int .u32 z7]] w fun r w' => r = .returned (.agg #[.int .i64 ar, .int .i64 ur, .int .i64 f0r, .int .i64 f1r, .int .i64 b0r, .int .i64 b1r, .int .i64 l0r, .int .i64 l1r]) ∧ Below w.heap.size w w'))
    (w : World) (h : Tl w) : Calls Tryd.prog 5 #[.agg #[.int .i64 a, .int .i64 u, .int .i64 f0, .int .i64 f1, .int .i64 b0, .int .i64 b1, .int .i64 l0, .int .i64 l1], .agg #[.int .u8 z0, .int .u8 z1, .int .u8 z2, .int .u8 z3, .int .u32 z4, .int .u32 z5, .int .u32 z6, .int .u32 z7]] w fun e w' => e = .returned (.bool true) ∧ Below w.heap.size w w' := by
  have H := Lib.hid h; clear h
  obtain ⟨⟨p0, p1, q0, q1⟩, hs1⟩ : ∃ x, seen ⟨a, u, f0, f1, b0, b1, l0, l1⟩ = x := ⟨_, rfl⟩
  obtain ⟨⟨m0, m1, n0, n1⟩, hs2⟩ : ∃ x, seen ⟨ar, ur, f0r, f1r, b0r, b1r, l0r, l1r⟩ = x := ⟨_, rfl⟩
  have Hs1 := Lib.hid hs1
  have Hs2 := Lib.hid hs2
  obtain ⟨ax, hx⟩ : ∃ x, bits .xor .i64 a 16 = x := ⟨_, rfl⟩
  obtain ⟨arx, hxr⟩ : ∃ x, bits .xor .i64 ar 16 = x := ⟨_, rfl⟩
  have Hx1 := Lib.hid hx
  have Hx2 := Lib.hid hxr
  clear hs1 hs2 hx hxr
  go_enter Tryd.func5, Tryd.ntmps5
  go_wp2_with fail
  have hA0 : Box ((w.alloc (.cells #[.int .i64 a, .int .i64 u, .int .i64 f0, .int .i64 f1, .int .i64 b0, .int .i64 b1, .int .i64 l0, .int .i64 l1] 25)).alloc (.cells #[.int .u8 z0, .int .u8 z1, .int .u8 z2, .int .u8 z3, .int .u32 z4, .int .u32 z5, .int .u32 z6, .int .u32 z7] 31)) w.heap.size (cS ⟨a, u, f0, f1, b0, b1, l0, l1⟩) := (Box.new _ _ _).alloc _
  have hB0 : Box ((w.alloc (.cells #[.int .i64 a, .int .i64 u, .int .i64 f0, .int .i64 f1, .int .i64 b0, .int .i64 b1, .int .i64 l0, .int .i64 l1] 25)).alloc (.cells #[.int .u8 z0, .int .u8 z1, .int .u8 z2, .int .u8 z3, .int .u32 z4, .int .u32 z5, .int .u32 z6, .int .u32 z7] 31)) (w.heap.size + 1) [.int .u8 z0, .int .u8 z1, .int .u8 z2, .int .u8 z3, .int .u32 z4, .int .u32 z5, .int .u32 z6, .int .u32 z7] := Box.of (alloc1_at _ _ _)
  have hW0 : Below w.heap.size w ((w.alloc (.cells #[.int .i64 a, .int .i64 u, .int .i64 f0, .int .i64 f1, .int .i64 b0, .int .i64 b1, .int .i64 l0, .int .i64 l1] 25)).alloc (.cells #[.int .u8 z0, .int .u8 z1, .int .u8 z2, .int .u8 z3, .int .u32 z4, .int .u32 z5, .int .u32 z6, .int .u32 z7] 31)) := two_boxes w _ _
  generalize (w.alloc (.cells #[.int .i64 a, .int .i64 u, .int .i64 f0, .int .i64 f1, .int .i64 b0, .int .i64 b1, .int .i64 l0, .int .i64 l1] 25)).alloc (.cells #[.int .u8 z0, .int .u8 z1, .int .u8 z2, .int .u8 z3, .int .u32 z4, .int .u32 z5, .int .u32 z6, .int .u32 z7] 31) = w1 at hA0 hB0 hW0 ⊢
  generalize w.heap.size + 1 = B at hB0 ⊢
  generalize w.heap.size = A at hA0 ⊢
  have hG : Below w1.heap.size w1 w1.drew := (Below.refl _ w1).drew
  have HW := Lib.hid hW0
  have hlA := hA0.1
  have hlB := hB0.1
  have x0 := hA0.cell 0 _ rfl
  have y0 := hB0.cell 0 _ rfl
  have x1 := hA0.cell 1 _ rfl
  have y1 := hB0.cell 1 _ rfl
  have x2 := hA0.cell 2 _ rfl
  have y2 := hB0.cell 2 _ rfl
  have x3 := hA0.cell 3 _ rfl
  have y3 := hB0.cell 3 _ rfl
  have x4 := hA0.cell 4 _ rfl
  have y4 := hB0.cell 4 _ rfl
  have x5 := hA0.cell 5 _ rfl
  have y5 := hB0.cell 5 _ rfl
  have x6 := hA0.cell 6 _ rfl
  have y6 := hB0.cell 6 _ rfl
  have x7 := hA0.cell 7 _ rfl
  have y7 := hB0.cell 7 _ rfl
  have d0_ : w1.drew.cell? ⟨A, 0, none⟩ = some (.int .i64 a) := x0
  have g0_ : w1.drew.cell? ⟨B, 0, none⟩ = some (.int .u8 z0) := y0
  have d1_ : w1.drew.cell? ⟨A, 1, none⟩ = some (.int .i64 u) := x1
  have g1_ : w1.drew.cell? ⟨B, 1, none⟩ = some (.int .u8 z1) := y1
  have d2_ : w1.drew.cell? ⟨A, 2, none⟩ = some (.int .i64 f0) := x2
  have g2_ : w1.drew.cell? ⟨B, 2, none⟩ = some (.int .u8 z2) := y2
  have d3_ : w1.drew.cell? ⟨A, 3, none⟩ = some (.int .i64 f1) := x3
  have g3_ : w1.drew.cell? ⟨B, 3, none⟩ = some (.int .u8 z3) := y3
  have d4_ : w1.drew.cell? ⟨A, 4, none⟩ = some (.int .i64 b0) := x4
  have g4_ : w1.drew.cell? ⟨B, 4, none⟩ = some (.int .u32 z4) := y4
  have d5_ : w1.drew.cell? ⟨A, 5, none⟩ = some (.int .i64 b1) := x5
  have g5_ : w1.drew.cell? ⟨B, 5, none⟩ = some (.int .u32 z5) := y5
  have d6_ : w1.drew.cell? ⟨A, 6, none⟩ = some (.int .i64 l0) := x6
  have g6_ : w1.drew.cell? ⟨B, 6, none⟩ = some (.int .u32 z6) := y6
  have d7_ : w1.drew.cell? ⟨A, 7, none⟩ = some (.int .i64 l1) := x7
  have g7_ : w1.drew.cell? ⟨B, 7, none⟩ = some (.int .u32 z7) := y7
  clear hA0 hB0 hW0
  go_region_held3 (fun w' => w'.cell? ⟨A, 0, none⟩ = some (.int .i64 a) ∧ w'.cell? ⟨A, 1, none⟩ = some (.int .i64 u) ∧ w'.cell? ⟨A, 2, none⟩ = some (.int .i64 f0) ∧ w'.cell? ⟨A, 3, none⟩ = some (.int .i64 f1) ∧ w'.cell? ⟨A, 4, none⟩ = some (.int .i64 b0) ∧ w'.cell? ⟨A, 5, none⟩ = some (.int .i64 b1) ∧ w'.cell? ⟨A, 6, none⟩ = some (.int .i64 l0) ∧ w'.cell? ⟨A, 7, none⟩ = some (.int .i64 l1) ∧ w'.cell? ⟨B, 0, none⟩ = some (.int .u8 z0) ∧ w'.cell? ⟨B, 1, none⟩ = some (.int .u8 z1) ∧ w'.cell? ⟨B, 2, none⟩ = some (.int .u8 z2) ∧ w'.cell? ⟨B, 3, none⟩ = some (.int .u8 z3) ∧ w'.cell? ⟨B, 4, none⟩ = some (.int .u32 z4) ∧ w'.cell? ⟨B, 5, none⟩ = some (.int .u32 z5) ∧ w'.cell? ⟨B, 6, none⟩ = some (.int .u32 z6) ∧ w'.cell? ⟨B, 7, none⟩ = some (.int .u32 z7)) (first | exact ⟨by with_reducible assumption, by with_reducible assumption, by with_reducible assumption, by with_reducible assumption, by with_reducible assumption, by with_reducible assumption, by with_reducible assumption, by with_reducible assumption, by with_reducible assumption, by with_reducible assumption, by with_reducible assumption, by with_reducible assumption, by with_reducible assumption, by with_reducible assumption, by with_reducible assumption, by with_reducible assumption⟩ | go_keep) (first
    | (go_at_call 10; ((with_reducible refine (cd.out _).mono ?_); (rintro e wA ⟨rfl, hbA⟩; have hG := hG.trans (hbA.mono hG.size); clear hbA; (try clear d0_ g0_ d1_ g1_ d2_ g2_ d3_ g3_ d4_ g4_ d5_ g5_ d6_ g6_ d7_ g7_); have d0_ := (hG.cell (p := ⟨A, 0, none⟩) hlA).trans x0; have g0_ := (hG.cell (p := ⟨B, 0, none⟩) hlB).trans y0; have d1_ := (hG.cell (p := ⟨A, 1, none⟩) hlA).trans x1; have g1_ := (hG.cell (p := ⟨B, 1, none⟩) hlB).trans y1; have d2_ := (hG.cell (p := ⟨A, 2, none⟩) hlA).trans x2; have g2_ := (hG.cell (p := ⟨B, 2, none⟩) hlB).trans y2; have d3_ := (hG.cell (p := ⟨A, 3, none⟩) hlA).trans x3; have g3_ := (hG.cell (p := ⟨B, 3, none⟩) hlB).trans y3; have d4_ := (hG.cell (p := ⟨A, 4, none⟩) hlA).trans x4; have g4_ := (hG.cell (p := ⟨B, 4, none⟩) hlB).trans y4; have d5_ := (hG.cell (p := ⟨A, 5, none⟩) hlA).trans x5; have g5_ := (hG.cell (p := ⟨B, 5, none⟩) hlB).trans y5; have d6_ := (hG.cell (p := ⟨A, 6, none⟩) hlA).trans x6; have g6_ := (hG.cell (p := ⟨B, 6, none⟩) hlB).trans y6; have d7_ := (hG.cell (p := ⟨A, 7, none⟩) hlA).trans x7; have g7_ := (hG.cell (p := ⟨B, 7, none⟩) hlB).trans y7; skip))))
  rename_i hh
  clear hh
  clear x0 y0 d0_ g0_ x1 y1 d1_ g1_ x2 y2 d2_ g2_ x3 y3 d3_ g3_ x4 y4 d4_ g4_ x5 y5 d5_ g5_ x6 y6 d6_ g6_ x7 y7 d7_ g7_ hlA hlB
  have hF := Lib.hid (HW.out.trans (hG.mono HW.out.size))
  clear hG
  go_wp2_with fail
  go_loopw [15] (fun i wr => ∃ k : Nat, k ≤ 2 ∧ i = .int .i64 k ∧ Hid (Below w.heap.size w wr)) (fun i _ => 2 - (intOf i).toNat)
  case atStart => exact ⟨0, by omega, rfl, hF⟩
  case round =>
    clear hF
    obtain ⟨k, hk, rfl, hid⟩ := hrel
    have h0 := hid.out
    clear hid
    rcases (show k = 0 ∨ k = 1 ∨ k = 2 by omega) with rfl | rfl | rfl
    · rw [show (((0 : Nat)) : Int) = 0 from rfl]
      have e0 : ∀ W, (Instr.index 44 (.agg #[.int .i64 a, .int .i64 u, .int .i64 f0, .int .i64 f1, .int .i64 b0, .int .i64 b1, .int .i64 l0, .int .i64 l1, .int .i64 ar, .int .i64 ur, .int .i64 f0r, .int .i64 f1r, .int .i64 b0r, .int .i64 b1r, .int .i64 l0r, .int .i64 l1r]) (.int .i64 0)).run Tryd.prog W = .ok (.agg #[.int .i64 a, .int .i64 u, .int .i64 f0, .int .i64 f1, .int .i64 b0, .int .i64 b1, .int .i64 l0, .int .i64 l1]) W := fun _ => by kernel_rfl
      go_wp2_with fail
      have h1 := h0.alloc h0.size (.cells #[.int .i64 a, .int .i64 u, .int .i64 f0, .int .i64 f1, .int .i64 b0, .int .i64 b1, .int .i64 l0, .int .i64 l1] 25)
      have hC1 : Box (wr.alloc (.cells #[.int .i64 a, .int .i64 u, .int .i64 f0, .int .i64 f1, .int .i64 b0, .int .i64 b1, .int .i64 l0, .int .i64 l1] 25)) wr.heap.size (cS ⟨a, u, f0, f1, b0, b1, l0, l1⟩) := Box.new _ _ _
      generalize wr.alloc (.cells #[.int .i64 a, .int .i64 u, .int .i64 f0, .int .i64 f1, .int .i64 b0, .int .i64 b1, .int .i64 l0, .int .i64 l1] 25) = w2 at h1 hC1 ⊢
      generalize wr.heap.size = C at hC1 ⊢
      clear h0 e0
      refine (seen_is a u f0 f1 b0 b1 l0 l1 p0 p1 q0 q1 Hs1.out _).mono ?_
      rintro e w3 ⟨rfl, hb3⟩
      have h3 := h1.trans (hb3.mono h1.size)
      have hC3 := hC1.keep hb3
      clear hb3 h1 hC1
      have lC := hC3.1
      have c0 := hC3.cell 0 _ rfl
      have c1 := hC3.cell 1 _ rfl
      have c2 := hC3.cell 2 _ rfl
      have c3 := hC3.cell 3 _ rfl
      have c4 := hC3.cell 4 _ rfl
      have c5 := hC3.cell 5 _ rfl
      have c6 := hC3.cell 6 _ rfl
      have c7 := hC3.cell 7 _ rfl
      go_wp2_with fail
      have hD4 : Box ((w3.alloc (.cells #[.int .i64 p0, .int .i64 p1] 23)).alloc (.cells #[.int .i64 q0, .int .i64 q1] 23)) w3.heap.size [.int .i64 p0, .int .i64 p1] := (Box.new _ _ _).alloc _
      have hE4 : Box ((w3.alloc (.cells #[.int .i64 p0, .int .i64 p1] 23)).alloc (.cells #[.int .i64 q0, .int .i64 q1] 23)) (w3.heap.size + 1) [.int .i64 q0, .int .i64 q1] := Box.of (alloc1_at _ _ _)
      have hC4 := (hC3.alloc (.cells #[.int .i64 p0, .int .i64 p1] 23)).alloc (.cells #[.int .i64 q0, .int .i64 q1] 23)
      have h4 := (h3.alloc h3.size (.cells #[.int .i64 p0, .int .i64 p1] 23)).alloc (h3.alloc h3.size (.cells #[.int .i64 p0, .int .i64 p1] 23)).size (.cells #[.int .i64 q0, .int .i64 q1] 23)
      generalize (w3.alloc (.cells #[.int .i64 p0, .int .i64 p1] 23)).alloc (.cells #[.int .i64 q0, .int .i64 q1] 23) = w4 at hD4 hE4 hC4 h4 ⊢
      generalize w3.heap.size + 1 = E at hE4 ⊢
      generalize w3.heap.size = D at hD4 ⊢
      clear h3 hC3 lC c0 c1 c2 c3 c4 c5 c6 c7
      refine (rseen_is a u f0 f1 b0 b1 l0 l1 p0 p1 q0 q1 Hs1.out _).mono ?_
      rintro e w5 ⟨rfl, hb5⟩
      have h5 := h4.trans (hb5.mono h4.size)
      have hC5 := hC4.keep hb5
      have hD5 := hD4.keep hb5
      have hE5 := hE4.keep hb5
      clear hb5 h4 hC4 hD4 hE4
      go_wp2_with fail
      have hI6 : Box ((w5.alloc (.cells #[.int .i64 p0, .int .i64 p1] 23)).alloc (.cells #[.int .i64 q0, .int .i64 q1] 23)) w5.heap.size [.int .i64 p0, .int .i64 p1] := (Box.new _ _ _).alloc _
      have hJ6 : Box ((w5.alloc (.cells #[.int .i64 p0, .int .i64 p1] 23)).alloc (.cells #[.int .i64 q0, .int .i64 q1] 23)) (w5.heap.size + 1) [.int .i64 q0, .int .i64 q1] := Box.of (alloc1_at _ _ _)
      have hC6 := (hC5.alloc (.cells #[.int .i64 p0, .int .i64 p1] 23)).alloc (.cells #[.int .i64 q0, .int .i64 q1] 23)
      have hD6 := (hD5.alloc (.cells #[.int .i64 p0, .int .i64 p1] 23)).alloc (.cells #[.int .i64 q0, .int .i64 q1] 23)
      have hE6 := (hE5.alloc (.cells #[.int .i64 p0, .int .i64 p1] 23)).alloc (.cells #[.int .i64 q0, .int .i64 q1] 23)
      have h6 := (h5.alloc h5.size (.cells #[.int .i64 p0, .int .i64 p1] 23)).alloc (h5.alloc h5.size (.cells #[.int .i64 p0, .int .i64 p1] 23)).size (.cells #[.int .i64 q0, .int .i64 q1] 23)
      generalize (w5.alloc (.cells #[.int .i64 p0, .int .i64 p1] 23)).alloc (.cells #[.int .i64 q0, .int .i64 q1] 23) = w6 at hI6 hJ6 hC6 hD6 hE6 h6 ⊢
      generalize w5.heap.size + 1 = J at hJ6 ⊢
      generalize w5.heap.size = I at hI6 ⊢
      clear h5 hC5 hD5 hE5
      have hG : Below w6.heap.size w6 w6.drew := (Below.refl _ w6).drew
      have HW6 := Lib.hid h6
      have lC := hC6.1
      have lD := hD6.1
      have lE := hE6.1
      have lI := hI6.1
      have lJ := hJ6.1
      have xC0 := hC6.cell 0 _ rfl
      have xC1 := hC6.cell 1 _ rfl
      have xC2 := hC6.cell 2 _ rfl
      have xC3 := hC6.cell 3 _ rfl
      have xC4 := hC6.cell 4 _ rfl
      have xC5 := hC6.cell 5 _ rfl
      have xC6 := hC6.cell 6 _ rfl
      have xC7 := hC6.cell 7 _ rfl
      have xD0 := hD6.cell 0 _ rfl
      have xD1 := hD6.cell 1 _ rfl
      have xE0 := hE6.cell 0 _ rfl
      have xE1 := hE6.cell 1 _ rfl
      have xI0 := hI6.cell 0 _ rfl
      have xI1 := hI6.cell 1 _ rfl
      have xJ0 := hJ6.cell 0 _ rfl
      have xJ1 := hJ6.cell 1 _ rfl
      have dC0 : w6.drew.cell? ⟨C, 0, none⟩ = some (.int .i64 a) := xC0
      have dC1 : w6.drew.cell? ⟨C, 1, none⟩ = some (.int .i64 u) := xC1
      have dC2 : w6.drew.cell? ⟨C, 2, none⟩ = some (.int .i64 f0) := xC2
      have dC3 : w6.drew.cell? ⟨C, 3, none⟩ = some (.int .i64 f1) := xC3
      have dC4 : w6.drew.cell? ⟨C, 4, none⟩ = some (.int .i64 b0) := xC4
      have dC5 : w6.drew.cell? ⟨C, 5, none⟩ = some (.int .i64 b1) := xC5
      have dC6 : w6.drew.cell? ⟨C, 6, none⟩ = some (.int .i64 l0) := xC6
      have dC7 : w6.drew.cell? ⟨C, 7, none⟩ = some (.int .i64 l1) := xC7
      have dD0 : w6.drew.cell? ⟨D, 0, none⟩ = some (.int .i64 p0) := xD0
      have dD1 : w6.drew.cell? ⟨D, 1, none⟩ = some (.int .i64 p1) := xD1
      have dE0 : w6.drew.cell? ⟨E, 0, none⟩ = some (.int .i64 q0) := xE0
      have dE1 : w6.drew.cell? ⟨E, 1, none⟩ = some (.int .i64 q1) := xE1
      have dI0 : w6.drew.cell? ⟨I, 0, none⟩ = some (.int .i64 p0) := xI0
      have dI1 : w6.drew.cell? ⟨I, 1, none⟩ = some (.int .i64 p1) := xI1
      have dJ0 : w6.drew.cell? ⟨J, 0, none⟩ = some (.int .i64 q0) := xJ0
      have dJ1 : w6.drew.cell? ⟨J, 1, none⟩ = some (.int .i64 q1) := xJ1
      have e1 : ∀ W, (binOp .neq 25 (.agg #[.int .i64 ax, .int .i64 u, .int .i64 f0, .int .i64 f1, .int .i64 b0, .int .i64 b1, .int .i64 l0, .int .i64 l1]) (.agg #[.int .i64 ax, .int .i64 u, .int .i64 f0, .int .i64 f1, .int .i64 b0, .int .i64 b1, .int .i64 l0, .int .i64 l1])).run Tryd.prog W = .ok (.bool false) W := fun W => by rw [neqS, eqS_self]; rfl
      clear hC6 hD6 hE6 hI6 hJ6 h6
      go_region_held3 (fun w' => w'.cell? ⟨C, 0, none⟩ = some (.int .i64 a) ∧ w'.cell? ⟨C, 1, none⟩ = some (.int .i64 u) ∧ w'.cell? ⟨C, 2, none⟩ = some (.int .i64 f0) ∧ w'.cell? ⟨C, 3, none⟩ = some (.int .i64 f1) ∧ w'.cell? ⟨C, 4, none⟩ = some (.int .i64 b0) ∧ w'.cell? ⟨C, 5, none⟩ = some (.int .i64 b1) ∧ w'.cell? ⟨C, 6, none⟩ = some (.int .i64 l0) ∧ w'.cell? ⟨C, 7, none⟩ = some (.int .i64 l1) ∧ w'.cell? ⟨D, 0, none⟩ = some (.int .i64 p0) ∧ w'.cell? ⟨D, 1, none⟩ = some (.int .i64 p1) ∧ w'.cell? ⟨E, 0, none⟩ = some (.int .i64 q0) ∧ w'.cell? ⟨E, 1, none⟩ = some (.int .i64 q1) ∧ w'.cell? ⟨I, 0, none⟩ = some (.int .i64 p0) ∧ w'.cell? ⟨I, 1, none⟩ = some (.int .i64 p1) ∧ w'.cell? ⟨J, 0, none⟩ = some (.int .i64 q0) ∧ w'.cell? ⟨J, 1, none⟩ = some (.int .i64 q1)) (first | exact ⟨by with_reducible assumption, by with_reducible assumption, by with_reducible assumption, by with_reducible assumption, by with_reducible assumption, by with_reducible assumption, by with_reducible assumption, by with_reducible assumption, by with_reducible assumption, by with_reducible assumption, by with_reducible assumption, by with_reducible assumption, by with_reducible assumption, by with_reducible assumption, by with_reducible assumption, by with_reducible assumption⟩ | go_keep) (first
        | (go_at_call 23; ((with_reducible refine (inverse_x a u f0 f1 b0 b1 l0 l1 ax Hx1.out _).mono ?_); (rintro e wA ⟨rfl, hbA⟩; have hG := hG.trans (hbA.mono hG.size); clear hbA; (try clear dC0 dC1 dC2 dC3 dC4 dC5 dC6 dC7 dD0 dD1 dE0 dE1 dI0 dI1 dJ0 dJ1); have dC0 := (hG.cell (p := ⟨C, 0, none⟩) lC).trans xC0; have dC1 := (hG.cell (p := ⟨C, 1, none⟩) lC).trans xC1; have dC2 := (hG.cell (p := ⟨C, 2, none⟩) lC).trans xC2; have dC3 := (hG.cell (p := ⟨C, 3, none⟩) lC).trans xC3; have dC4 := (hG.cell (p := ⟨C, 4, none⟩) lC).trans xC4; have dC5 := (hG.cell (p := ⟨C, 5, none⟩) lC).trans xC5; have dC6 := (hG.cell (p := ⟨C, 6, none⟩) lC).trans xC6; have dC7 := (hG.cell (p := ⟨C, 7, none⟩) lC).trans xC7; have dD0 := (hG.cell (p := ⟨D, 0, none⟩) lD).trans xD0; have dD1 := (hG.cell (p := ⟨D, 1, none⟩) lD).trans xD1; have dE0 := (hG.cell (p := ⟨E, 0, none⟩) lE).trans xE0; have dE1 := (hG.cell (p := ⟨E, 1, none⟩) lE).trans xE1; have dI0 := (hG.cell (p := ⟨I, 0, none⟩) lI).trans xI0; have dI1 := (hG.cell (p := ⟨I, 1, none⟩) lI).trans xI1; have dJ0 := (hG.cell (p := ⟨J, 0, none⟩) lJ).trans xJ0; have dJ1 := (hG.cell (p := ⟨J, 1, none⟩) lJ).trans xJ1; skip)))
        | (go_at_call 24; ((with_reducible refine (rinverse_is a u f0 f1 b0 b1 l0 l1 ax Hx1.out _).mono ?_); (rintro e wA ⟨rfl, hbA⟩; have hG := hG.trans (hbA.mono hG.size); clear hbA; (try clear dC0 dC1 dC2 dC3 dC4 dC5 dC6 dC7 dD0 dD1 dE0 dE1 dI0 dI1 dJ0 dJ1); have dC0 := (hG.cell (p := ⟨C, 0, none⟩) lC).trans xC0; have dC1 := (hG.cell (p := ⟨C, 1, none⟩) lC).trans xC1; have dC2 := (hG.cell (p := ⟨C, 2, none⟩) lC).trans xC2; have dC3 := (hG.cell (p := ⟨C, 3, none⟩) lC).trans xC3; have dC4 := (hG.cell (p := ⟨C, 4, none⟩) lC).trans xC4; have dC5 := (hG.cell (p := ⟨C, 5, none⟩) lC).trans xC5; have dC6 := (hG.cell (p := ⟨C, 6, none⟩) lC).trans xC6; have dC7 := (hG.cell (p := ⟨C, 7, none⟩) lC).trans xC7; have dD0 := (hG.cell (p := ⟨D, 0, none⟩) lD).trans xD0; have dD1 := (hG.cell (p := ⟨D, 1, none⟩) lD).trans xD1; have dE0 := (hG.cell (p := ⟨E, 0, none⟩) lE).trans xE0; have dE1 := (hG.cell (p := ⟨E, 1, none⟩) lE).trans xE1; have dI0 := (hG.cell (p := ⟨I, 0, none⟩) lI).trans xI0; have dI1 := (hG.cell (p := ⟨I, 1, none⟩) lI).trans xI1; have dJ0 := (hG.cell (p := ⟨J, 0, none⟩) lJ).trans xJ0; have dJ1 := (hG.cell (p := ⟨J, 1, none⟩) lJ).trans xJ1; skip))))
      all_goals
        have hX := Lib.hid (HW6.out.trans (hG.mono HW6.out.size))
        clear hG lC lD lE lI lJ xC0 xC1 xC2 xC3 xC4 xC5 xC6 xC7 xD0 xD1 xE0 xE1 xI0 xI1 xJ0 xJ1 dC0 dC1 dC2 dC3 dC4 dC5 dC6 dC7 dD0 dD1 dE0 dE1 dI0 dI1 dJ0 dJ1 e1
        go_wp2
        go_roundw
        case rel => exact ⟨1, by omega, rfl, hX⟩
        case measure => simp [intOf]
    · rw [show (((1 : Nat)) : Int) = 1 from rfl]
      have e0 : ∀ W, (Instr.index 44 (.agg #[.int .i64 a, .int .i64 u, .int .i64 f0, .int .i64 f1, .int .i64 b0, .int .i64 b1, .int .i64 l0, .int .i64 l1, .int .i64 ar, .int .i64 ur, .int .i64 f0r, .int .i64 f1r, .int .i64 b0r, .int .i64 b1r, .int .i64 l0r, .int .i64 l1r]) (.int .i64 1)).run Tryd.prog W = .ok (.agg #[.int .i64 ar, .int .i64 ur, .int .i64 f0r, .int .i64 f1r, .int .i64 b0r, .int .i64 b1r, .int .i64 l0r, .int .i64 l1r]) W := fun _ => by kernel_rfl
      go_wp2_with fail
      have h1 := h0.alloc h0.size (.cells #[.int .i64 ar, .int .i64 ur, .int .i64 f0r, .int .i64 f1r, .int .i64 b0r, .int .i64 b1r, .int .i64 l0r, .int .i64 l1r] 25)
      have hC1 : Box (wr.alloc (.cells #[.int .i64 ar, .int .i64 ur, .int .i64 f0r, .int .i64 f1r, .int .i64 b0r, .int .i64 b1r, .int .i64 l0r, .int .i64 l1r] 25)) wr.heap.size (cS ⟨ar, ur, f0r, f1r, b0r, b1r, l0r, l1r⟩) := Box.new _ _ _
      generalize wr.alloc (.cells #[.int .i64 ar, .int .i64 ur, .int .i64 f0r, .int .i64 f1r, .int .i64 b0r, .int .i64 b1r, .int .i64 l0r, .int .i64 l1r] 25) = w2 at h1 hC1 ⊢
      generalize wr.heap.size = C at hC1 ⊢
      clear h0 e0
      refine (seen_is ar ur f0r f1r b0r b1r l0r l1r m0 m1 n0 n1 Hs2.out _).mono ?_
      rintro e w3 ⟨rfl, hb3⟩
      have h3 := h1.trans (hb3.mono h1.size)
      have hC3 := hC1.keep hb3
      clear hb3 h1 hC1
      have lC := hC3.1
      have c0 := hC3.cell 0 _ rfl
      have c1 := hC3.cell 1 _ rfl
      have c2 := hC3.cell 2 _ rfl
      have c3 := hC3.cell 3 _ rfl
      have c4 := hC3.cell 4 _ rfl
      have c5 := hC3.cell 5 _ rfl
      have c6 := hC3.cell 6 _ rfl
      have c7 := hC3.cell 7 _ rfl
      go_wp2_with fail
      have hD4 : Box ((w3.alloc (.cells #[.int .i64 m0, .int .i64 m1] 23)).alloc (.cells #[.int .i64 n0, .int .i64 n1] 23)) w3.heap.size [.int .i64 m0, .int .i64 m1] := (Box.new _ _ _).alloc _
      have hE4 : Box ((w3.alloc (.cells #[.int .i64 m0, .int .i64 m1] 23)).alloc (.cells #[.int .i64 n0, .int .i64 n1] 23)) (w3.heap.size + 1) [.int .i64 n0, .int .i64 n1] := Box.of (alloc1_at _ _ _)
      have hC4 := (hC3.alloc (.cells #[.int .i64 m0, .int .i64 m1] 23)).alloc (.cells #[.int .i64 n0, .int .i64 n1] 23)
      have h4 := (h3.alloc h3.size (.cells #[.int .i64 m0, .int .i64 m1] 23)).alloc (h3.alloc h3.size (.cells #[.int .i64 m0, .int .i64 m1] 23)).size (.cells #[.int .i64 n0, .int .i64 n1] 23)
      generalize (w3.alloc (.cells #[.int .i64 m0, .int .i64 m1] 23)).alloc (.cells #[.int .i64 n0, .int .i64 n1] 23) = w4 at hD4 hE4 hC4 h4 ⊢
      generalize w3.heap.size + 1 = E at hE4 ⊢
      generalize w3.heap.size = D at hD4 ⊢
      clear h3 hC3 lC c0 c1 c2 c3 c4 c5 c6 c7
      refine (rseen_is ar ur f0r f1r b0r b1r l0r l1r m0 m1 n0 n1 Hs2.out _).mono ?_
      rintro e w5 ⟨rfl, hb5⟩
      have h5 := h4.trans (hb5.mono h4.size)
      have hC5 := hC4.keep hb5
      have hD5 := hD4.keep hb5
      have hE5 := hE4.keep hb5
      clear hb5 h4 hC4 hD4 hE4
      go_wp2_with fail
      have hI6 : Box ((w5.alloc (.cells #[.int .i64 m0, .int .i64 m1] 23)).alloc (.cells #[.int .i64 n0, .int .i64 n1] 23)) w5.heap.size [.int .i64 m0, .int .i64 m1] := (Box.new _ _ _).alloc _
      have hJ6 : Box ((w5.alloc (.cells #[.int .i64 m0, .int .i64 m1] 23)).alloc (.cells #[.int .i64 n0, .int .i64 n1] 23)) (w5.heap.size + 1) [.int .i64 n0, .int .i64 n1] := Box.of (alloc1_at _ _ _)
      have hC6 := (hC5.alloc (.cells #[.int .i64 m0, .int .i64 m1] 23)).alloc (.cells #[.int .i64 n0, .int .i64 n1] 23)
      have hD6 := (hD5.alloc (.cells #[.int .i64 m0, .int .i64 m1] 23)).alloc (.cells #[.int .i64 n0, .int .i64 n1] 23)
      have hE6 := (hE5.alloc (.cells #[.int .i64 m0, .int .i64 m1] 23)).alloc (.cells #[.int .i64 n0, .int .i64 n1] 23)
      have h6 := (h5.alloc h5.size (.cells #[.int .i64 m0, .int .i64 m1] 23)).alloc (h5.alloc h5.size (.cells #[.int .i64 m0, .int .i64 m1] 23)).size (.cells #[.int .i64 n0, .int .i64 n1] 23)
      generalize (w5.alloc (.cells #[.int .i64 m0, .int .i64 m1] 23)).alloc (.cells #[.int .i64 n0, .int .i64 n1] 23) = w6 at hI6 hJ6 hC6 hD6 hE6 h6 ⊢
      generalize w5.heap.size + 1 = J at hJ6 ⊢
      generalize w5.heap.size = I at hI6 ⊢
      clear h5 hC5 hD5 hE5
      have hG : Below w6.heap.size w6 w6.drew := (Below.refl _ w6).drew
      have HW6 := Lib.hid h6
      have lC := hC6.1
      have lD := hD6.1
      have lE := hE6.1
      have lI := hI6.1
      have lJ := hJ6.1
      have xC0 := hC6.cell 0 _ rfl
      have xC1 := hC6.cell 1 _ rfl
      have xC2 := hC6.cell 2 _ rfl
      have xC3 := hC6.cell 3 _ rfl
      have xC4 := hC6.cell 4 _ rfl
      have xC5 := hC6.cell 5 _ rfl
      have xC6 := hC6.cell 6 _ rfl
      have xC7 := hC6.cell 7 _ rfl
      have xD0 := hD6.cell 0 _ rfl
      have xD1 := hD6.cell 1 _ rfl
      have xE0 := hE6.cell 0 _ rfl
      have xE1 := hE6.cell 1 _ rfl
      have xI0 := hI6.cell 0 _ rfl
      have xI1 := hI6.cell 1 _ rfl
      have xJ0 := hJ6.cell 0 _ rfl
      have xJ1 := hJ6.cell 1 _ rfl
      have dC0 : w6.drew.cell? ⟨C, 0, none⟩ = some (.int .i64 ar) := xC0
      have dC1 : w6.drew.cell? ⟨C, 1, none⟩ = some (.int .i64 ur) := xC1
      have dC2 : w6.drew.cell? ⟨C, 2, none⟩ = some (.int .i64 f0r) := xC2
      have dC3 : w6.drew.cell? ⟨C, 3, none⟩ = some (.int .i64 f1r) := xC3
      have dC4 : w6.drew.cell? ⟨C, 4, none⟩ = some (.int .i64 b0r) := xC4
      have dC5 : w6.drew.cell? ⟨C, 5, none⟩ = some (.int .i64 b1r) := xC5
      have dC6 : w6.drew.cell? ⟨C, 6, none⟩ = some (.int .i64 l0r) := xC6
      have dC7 : w6.drew.cell? ⟨C, 7, none⟩ = some (.int .i64 l1r) := xC7
      have dD0 : w6.drew.cell? ⟨D, 0, none⟩ = some (.int .i64 m0) := xD0
      have dD1 : w6.drew.cell? ⟨D, 1, none⟩ = some (.int .i64 m1) := xD1
      have dE0 : w6.drew.cell? ⟨E, 0, none⟩ = some (.int .i64 n0) := xE0
      have dE1 : w6.drew.cell? ⟨E, 1, none⟩ = some (.int .i64 n1) := xE1
      have dI0 : w6.drew.cell? ⟨I, 0, none⟩ = some (.int .i64 m0) := xI0
      have dI1 : w6.drew.cell? ⟨I, 1, none⟩ = some (.int .i64 m1) := xI1
      have dJ0 : w6.drew.cell? ⟨J, 0, none⟩ = some (.int .i64 n0) := xJ0
      have dJ1 : w6.drew.cell? ⟨J, 1, none⟩ = some (.int .i64 n1) := xJ1
      have e1 : ∀ W, (binOp .neq 25 (.agg #[.int .i64 arx, .int .i64 ur, .int .i64 f0r, .int .i64 f1r, .int .i64 b0r, .int .i64 b1r, .int .i64 l0r, .int .i64 l1r]) (.agg #[.int .i64 arx, .int .i64 ur, .int .i64 f0r, .int .i64 f1r, .int .i64 b0r, .int .i64 b1r, .int .i64 l0r, .int .i64 l1r])).run Tryd.prog W = .ok (.bool false) W := fun W => by rw [neqS, eqS_self]; rfl
      clear hC6 hD6 hE6 hI6 hJ6 h6
      go_region_held3 (fun w' => w'.cell? ⟨C, 0, none⟩ = some (.int .i64 ar) ∧ w'.cell? ⟨C, 1, none⟩ = some (.int .i64 ur) ∧ w'.cell? ⟨C, 2, none⟩ = some (.int .i64 f0r) ∧ w'.cell? ⟨C, 3, none⟩ = some (.int .i64 f1r) ∧ w'.cell? ⟨C, 4, none⟩ = some (.int .i64 b0r) ∧ w'.cell? ⟨C, 5, none⟩ = some (.int .i64 b1r) ∧ w'.cell? ⟨C, 6, none⟩ = some (.int .i64 l0r) ∧ w'.cell? ⟨C, 7, none⟩ = some (.int .i64 l1r) ∧ w'.cell? ⟨D, 0, none⟩ = some (.int .i64 m0) ∧ w'.cell? ⟨D, 1, none⟩ = some (.int .i64 m1) ∧ w'.cell? ⟨E, 0, none⟩ = some (.int .i64 n0) ∧ w'.cell? ⟨E, 1, none⟩ = some (.int .i64 n1) ∧ w'.cell? ⟨I, 0, none⟩ = some (.int .i64 m0) ∧ w'.cell? ⟨I, 1, none⟩ = some (.int .i64 m1) ∧ w'.cell? ⟨J, 0, none⟩ = some (.int .i64 n0) ∧ w'.cell? ⟨J, 1, none⟩ = some (.int .i64 n1)) (first | exact ⟨by with_reducible assumption, by with_reducible assumption, by with_reducible assumption, by with_reducible assumption, by with_reducible assumption, by with_reducible assumption, by with_reducible assumption, by with_reducible assumption, by with_reducible assumption, by with_reducible assumption, by with_reducible assumption, by with_reducible assumption, by with_reducible assumption, by with_reducible assumption, by with_reducible assumption, by with_reducible assumption⟩ | go_keep) (first
        | (go_at_call 23; ((with_reducible refine (inverse_x ar ur f0r f1r b0r b1r l0r l1r arx Hx2.out _).mono ?_); (rintro e wA ⟨rfl, hbA⟩; have hG := hG.trans (hbA.mono hG.size); clear hbA; (try clear dC0 dC1 dC2 dC3 dC4 dC5 dC6 dC7 dD0 dD1 dE0 dE1 dI0 dI1 dJ0 dJ1); have dC0 := (hG.cell (p := ⟨C, 0, none⟩) lC).trans xC0; have dC1 := (hG.cell (p := ⟨C, 1, none⟩) lC).trans xC1; have dC2 := (hG.cell (p := ⟨C, 2, none⟩) lC).trans xC2; have dC3 := (hG.cell (p := ⟨C, 3, none⟩) lC).trans xC3; have dC4 := (hG.cell (p := ⟨C, 4, none⟩) lC).trans xC4; have dC5 := (hG.cell (p := ⟨C, 5, none⟩) lC).trans xC5; have dC6 := (hG.cell (p := ⟨C, 6, none⟩) lC).trans xC6; have dC7 := (hG.cell (p := ⟨C, 7, none⟩) lC).trans xC7; have dD0 := (hG.cell (p := ⟨D, 0, none⟩) lD).trans xD0; have dD1 := (hG.cell (p := ⟨D, 1, none⟩) lD).trans xD1; have dE0 := (hG.cell (p := ⟨E, 0, none⟩) lE).trans xE0; have dE1 := (hG.cell (p := ⟨E, 1, none⟩) lE).trans xE1; have dI0 := (hG.cell (p := ⟨I, 0, none⟩) lI).trans xI0; have dI1 := (hG.cell (p := ⟨I, 1, none⟩) lI).trans xI1; have dJ0 := (hG.cell (p := ⟨J, 0, none⟩) lJ).trans xJ0; have dJ1 := (hG.cell (p := ⟨J, 1, none⟩) lJ).trans xJ1; skip)))
        | (go_at_call 24; ((with_reducible refine (rinverse_is ar ur f0r f1r b0r b1r l0r l1r arx Hx2.out _).mono ?_); (rintro e wA ⟨rfl, hbA⟩; have hG := hG.trans (hbA.mono hG.size); clear hbA; (try clear dC0 dC1 dC2 dC3 dC4 dC5 dC6 dC7 dD0 dD1 dE0 dE1 dI0 dI1 dJ0 dJ1); have dC0 := (hG.cell (p := ⟨C, 0, none⟩) lC).trans xC0; have dC1 := (hG.cell (p := ⟨C, 1, none⟩) lC).trans xC1; have dC2 := (hG.cell (p := ⟨C, 2, none⟩) lC).trans xC2; have dC3 := (hG.cell (p := ⟨C, 3, none⟩) lC).trans xC3; have dC4 := (hG.cell (p := ⟨C, 4, none⟩) lC).trans xC4; have dC5 := (hG.cell (p := ⟨C, 5, none⟩) lC).trans xC5; have dC6 := (hG.cell (p := ⟨C, 6, none⟩) lC).trans xC6; have dC7 := (hG.cell (p := ⟨C, 7, none⟩) lC).trans xC7; have dD0 := (hG.cell (p := ⟨D, 0, none⟩) lD).trans xD0; have dD1 := (hG.cell (p := ⟨D, 1, none⟩) lD).trans xD1; have dE0 := (hG.cell (p := ⟨E, 0, none⟩) lE).trans xE0; have dE1 := (hG.cell (p := ⟨E, 1, none⟩) lE).trans xE1; have dI0 := (hG.cell (p := ⟨I, 0, none⟩) lI).trans xI0; have dI1 := (hG.cell (p := ⟨I, 1, none⟩) lI).trans xI1; have dJ0 := (hG.cell (p := ⟨J, 0, none⟩) lJ).trans xJ0; have dJ1 := (hG.cell (p := ⟨J, 1, none⟩) lJ).trans xJ1; skip))))
      all_goals
        have hX := Lib.hid (HW6.out.trans (hG.mono HW6.out.size))
        clear hG lC lD lE lI lJ xC0 xC1 xC2 xC3 xC4 xC5 xC6 xC7 xD0 xD1 xE0 xE1 xI0 xI1 xJ0 xJ1 dC0 dC1 dC2 dC3 dC4 dC5 dC6 dC7 dD0 dD1 dE0 dE1 dI0 dI1 dJ0 dJ1 e1
        go_wp2
        go_roundw
        case rel => exact ⟨2, by omega, rfl, hX⟩
        case measure => simp [intOf]
    · rw [show (((2 : Nat)) : Int) = 2 from rfl]
      go_wp2_with fail
      refine (works_any _ ((H.out).keep h0)).mono ?_
      rintro e w2 ⟨rfl, hb2⟩
      have h2 := Lib.hid (h0.trans (hb2.mono h0.size))
      clear hb2 h0
      go_wp2
      go_ret
      exact ⟨rfl, h2.out⟩
theorem sseen_any (a u f0 f1 b0 b1 l0 l1 : Int) (d : D8) (w : World) (h : Tl w) : Calls Tryd.prog 5 #[.agg #[.int .i64 a, .int .i64 u, .int .i64 f0, .int .i64 f1, .int .i64 b0, .int .i64 b1, .int .i64 l0, .int .i64 l1], .agg #[.int .u8 (d.a.toNat : Int), .int .u8 (d.u.toNat : Int), .int .u8 (d.w.toNat : Int), .int .u8 (d.m.toNat : Int), .int .u32 (d.e0.toNat : Int), .int .u32 (d.e1.toNat : Int), .int .u32 (d.e2.toNat : Int), .int .u32 (d.e3.toNat : Int)]] w fun e w' => e = .returned (.bool true) ∧ Below w.heap.size w w' :=
  seen_z a u f0 f1 b0 b1 l0 l1 _ _ _ _ _ _ _ _ (styD d).a (styD d).u (styD d).f0 (styD d).f1 (styD d).b0 (styD d).b1 (styD d).l0 (styD d).l1 (Lib.hid fun w => style_any d w) w h
end Go.Proofs.YtokjjeekkfefmaaDoor.Sty
