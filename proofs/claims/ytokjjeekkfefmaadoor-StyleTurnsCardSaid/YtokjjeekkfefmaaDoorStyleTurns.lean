/-
  The walk of the law StyleTurns: it returns true, whatever its argument; nothing that lay before the call has turned.
-/
import Derived.Test.YtokjjeekkfefmaaDoorStyJ
import Derived.Test.YtokjjeekkfefmaaDoorStyBits
namespace Go.Proofs.YtokjjeekkfefmaaDoor.Sty
open Go.RowKit Utf Col

theorem inverse_is (a u f0 f1 b0 b1 l0 l1 x : Int) (h : bits .xor .i64 a 16 = x) (w : World) : Calls Tryd.prog 23 #[.agg #[.int .i64 a, .int .i64 u, .int .i64 f0, .int .i64 f1, .int .i64 b0, .int .i64 b1, .int .i64 l0, .int .i64 l1]] w fun e w' =>
    e = .returned (.agg #[.int .i64 x, .int .i64 u, .int .i64 f0, .int .i64 f1, .int .i64 b0, .int .i64 b1, .int .i64 l0, .int .i64 l1]) ∧ Below w.heap.size w w' := by
  subst h; exact inverse_any a u f0 f1 b0 b1 l0 l1 w
theorem seen_00 (a u f0 f1 b0 b1 l0 l1 : Int) (h1 : (bits .and .i64 a 16 != 0) = false) (h2 : (bits .and .i64 a 32 != 0) = false) : seen ⟨a, u, f0, f1, b0, b1, l0, l1⟩ = (f0, f1, b0, b1) := by
  simp only [seen, h1, h2]; rfl
theorem seen_10 (a u f0 f1 b0 b1 l0 l1 : Int) (h1 : (bits .and .i64 a 16 != 0) = true) (h2 : (bits .and .i64 a 32 != 0) = false) : seen ⟨a, u, f0, f1, b0, b1, l0, l1⟩ = (b0, b1, f0, f1) := by
  simp only [seen, h1, h2]; rfl
theorem seen_01 (a u f0 f1 b0 b1 l0 l1 : Int) (h1 : (bits .and .i64 a 16 != 0) = false) (h2 : (bits .and .i64 a 32 != 0) = true) : seen ⟨a, u, f0, f1, b0, b1, l0, l1⟩ = (b0, b1, b0, b1) := by
  simp only [seen, h1, h2]; rfl
theorem seen_11 (a u f0 f1 b0 b1 l0 l1 : Int) (h1 : (bits .and .i64 a 16 != 0) = true) (h2 : (bits .and .i64 a 32 != 0) = true) : seen ⟨a, u, f0, f1, b0, b1, l0, l1⟩ = (f0, f1, f0, f1) := by
  simp only [seen, h1, h2]; rfl
theorem eqS_head (x a : Int) (h : x ≠ a) (u f0 f1 b0 b1 l0 l1 u' f0' f1' b0' b1' l0' l1' : Int) : eqS ⟨x, u, f0, f1, b0, b1, l0, l1⟩ ⟨a, u', f0', f1', b0', b1', l0', l1'⟩ = false := by
  simp [eqS, h]
set_option maxRecDepth 100000 in
set_option maxHeartbeats 8000000 in
theorem turns_00 (a u f0 f1 b0 b1 l0 l1 x : Int) (hx : bits .xor .i64 a 16 = x) (hy : bits .xor .i64 x 16 = a) (hne : x ≠ a) (h1 : (bits .and .i64 a 16 != 0) = false) (h2 : (bits .and .i64 a 32 != 0) = false) (k1 : (bits .and .i64 x 16 != 0) = true) (k2 : (bits .and .i64 x 32 != 0) = false) (w : World) (h : Tl w) :
    Calls Tryd.prog 8 #[.agg #[.int .i64 a, .int .i64 u, .int .i64 f0, .int .i64 f1, .int .i64 b0, .int .i64 b1, .int .i64 l0, .int .i64 l1]] w fun e w' => e = .returned (.bool true) ∧ Below w.heap.size w w' := by
  have H := Lib.hid h; clear h
  have s1 := Lib.hid (seen_00 a u f0 f1 b0 b1 l0 l1 h1 h2)
  have s2 := Lib.hid (seen_10 x u f0 f1 b0 b1 l0 l1 k1 k2)
  have HX := Lib.hid hx; clear hx
  have HY := Lib.hid hy; clear hy
  have Hne := Lib.hid hne; clear hne
  clear h1 k1 k2
  go_enter Tryd.func8, Tryd.ntmps8
  go_wp2_with fail
  have hA0 : Box (w.alloc (.cells #[.int .i64 a, .int .i64 u, .int .i64 f0, .int .i64 f1, .int .i64 b0, .int .i64 b1, .int .i64 l0, .int .i64 l1] 25)) w.heap.size (cS ⟨a, u, f0, f1, b0, b1, l0, l1⟩) := Box.new _ _ _
  have h0 := below_box w (.cells #[.int .i64 a, .int .i64 u, .int .i64 f0, .int .i64 f1, .int .i64 b0, .int .i64 b1, .int .i64 l0, .int .i64 l1] 25)
  generalize w.alloc (.cells #[.int .i64 a, .int .i64 u, .int .i64 f0, .int .i64 f1, .int .i64 b0, .int .i64 b1, .int .i64 l0, .int .i64 l1] 25) = w0 at hA0 h0 ⊢
  refine (works_any _ ((H.out).keep h0)).mono ?_
  rintro e w1 ⟨rfl, hb1⟩
  have hA1 := hA0.keep hb1
  have h1 := h0.trans (hb1.mono h0.size)
  clear hb1 h0 hA0
  have hlA := hA1.1
  have x0 := hA1.cell 0 _ rfl
  have x1 := hA1.cell 1 _ rfl
  have x2 := hA1.cell 2 _ rfl
  have x3 := hA1.cell 3 _ rfl
  have x4 := hA1.cell 4 _ rfl
  have x5 := hA1.cell 5 _ rfl
  have x6 := hA1.cell 6 _ rfl
  have x7 := hA1.cell 7 _ rfl
  go_wp2_with fail
  refine (inverse_is a u f0 f1 b0 b1 l0 l1 x HX.out _).mono ?_
  rintro e w2 ⟨rfl, hb2⟩
  have hA2 := hA1.keep hb2
  have h2_ := h1.trans (hb2.mono h1.size)
  clear hb2 h1 hA1 x0 x1 x2 x3 x4 x5 x6 x7 hlA
  have hlA := hA2.1
  have x0 := hA2.cell 0 _ rfl
  have x1 := hA2.cell 1 _ rfl
  have x2 := hA2.cell 2 _ rfl
  have x3 := hA2.cell 3 _ rfl
  have x4 := hA2.cell 4 _ rfl
  have x5 := hA2.cell 5 _ rfl
  have x6 := hA2.cell 6 _ rfl
  have x7 := hA2.cell 7 _ rfl
  go_wp2_with fail
  have hB3 : Box (w2.alloc (.cells #[.int .i64 x, .int .i64 u, .int .i64 f0, .int .i64 f1, .int .i64 b0, .int .i64 b1, .int .i64 l0, .int .i64 l1] 25)) w2.heap.size (cS ⟨x, u, f0, f1, b0, b1, l0, l1⟩) := Box.new _ _ _
  have hA3 := hA2.alloc (.cells #[.int .i64 x, .int .i64 u, .int .i64 f0, .int .i64 f1, .int .i64 b0, .int .i64 b1, .int .i64 l0, .int .i64 l1] 25)
  have h3 := h2_.alloc h2_.size (.cells #[.int .i64 x, .int .i64 u, .int .i64 f0, .int .i64 f1, .int .i64 b0, .int .i64 b1, .int .i64 l0, .int .i64 l1] 25)
  generalize w2.alloc (.cells #[.int .i64 x, .int .i64 u, .int .i64 f0, .int .i64 f1, .int .i64 b0, .int .i64 b1, .int .i64 l0, .int .i64 l1] 25) = w3 at hB3 hA3 h3 ⊢
  generalize w2.heap.size = B at hB3 ⊢
  clear hA2 h2_ x0 x1 x2 x3 x4 x5 x6 x7 hlA
  refine (seen_is a u f0 f1 b0 b1 l0 l1 f0 f1 b0 b1 s1.out _).mono ?_
  rintro e w4 ⟨rfl, hb4⟩
  have hA4 := hA3.keep hb4
  have hB4 := hB3.keep hb4
  have h4 := h3.trans (hb4.mono h3.size)
  clear hb4 h3 hA3 hB3
  have hlB := hB4.1
  have y0 := hB4.cell 0 _ rfl
  have y1 := hB4.cell 1 _ rfl
  have y2 := hB4.cell 2 _ rfl
  have y3 := hB4.cell 3 _ rfl
  have y4 := hB4.cell 4 _ rfl
  have y5 := hB4.cell 5 _ rfl
  have y6 := hB4.cell 6 _ rfl
  have y7 := hB4.cell 7 _ rfl
  go_wp2_with fail
  have hC5 : Box ((w4.alloc (.cells #[.int .i64 f0, .int .i64 f1] 23)).alloc (.cells #[.int .i64 b0, .int .i64 b1] 23)) w4.heap.size [.int .i64 f0, .int .i64 f1] := (Box.new _ _ _).alloc _
  have hD5 : Box ((w4.alloc (.cells #[.int .i64 f0, .int .i64 f1] 23)).alloc (.cells #[.int .i64 b0, .int .i64 b1] 23)) (w4.heap.size + 1) [.int .i64 b0, .int .i64 b1] := Box.of (alloc1_at _ _ _)
  have hA5 := (hA4.alloc (.cells #[.int .i64 f0, .int .i64 f1] 23)).alloc (.cells #[.int .i64 b0, .int .i64 b1] 23)
  have hB5 := (hB4.alloc (.cells #[.int .i64 f0, .int .i64 f1] 23)).alloc (.cells #[.int .i64 b0, .int .i64 b1] 23)
  have h5 := (h4.alloc h4.size (.cells #[.int .i64 f0, .int .i64 f1] 23)).alloc (h4.alloc h4.size (.cells #[.int .i64 f0, .int .i64 f1] 23)).size (.cells #[.int .i64 b0, .int .i64 b1] 23)
  generalize (w4.alloc (.cells #[.int .i64 f0, .int .i64 f1] 23)).alloc (.cells #[.int .i64 b0, .int .i64 b1] 23) = w5 at hC5 hD5 hA5 hB5 h5 ⊢
  generalize w4.heap.size + 1 = D at hD5 ⊢
  generalize w4.heap.size = C at hC5 ⊢
  clear hA4 hB4 h4 y0 y1 y2 y3 y4 y5 y6 y7 hlB
  refine (seen_is x u f0 f1 b0 b1 l0 l1 b0 b1 f0 f1 s2.out _).mono ?_
  rintro e w6 ⟨rfl, hb6⟩
  have hA6 := hA5.keep hb6
  have hB6 := hB5.keep hb6
  have hC6 := hC5.keep hb6
  have hD6 := hD5.keep hb6
  have h6 := h5.trans (hb6.mono h5.size)
  clear hb6 h5 hA5 hB5 hC5 hD5
  have hlA := hA6.1
  have x0 := hA6.cell 0 _ rfl
  go_wp2_with fail
  have hE7 : Box ((w6.alloc (.cells #[.int .i64 b0, .int .i64 b1] 23)).alloc (.cells #[.int .i64 f0, .int .i64 f1] 23)) w6.heap.size [.int .i64 b0, .int .i64 b1] := (Box.new _ _ _).alloc _
  have hF7 : Box ((w6.alloc (.cells #[.int .i64 b0, .int .i64 b1] 23)).alloc (.cells #[.int .i64 f0, .int .i64 f1] 23)) (w6.heap.size + 1) [.int .i64 f0, .int .i64 f1] := Box.of (alloc1_at _ _ _)
  have hA7 := (hA6.alloc (.cells #[.int .i64 b0, .int .i64 b1] 23)).alloc (.cells #[.int .i64 f0, .int .i64 f1] 23)
  have hB7 := (hB6.alloc (.cells #[.int .i64 b0, .int .i64 b1] 23)).alloc (.cells #[.int .i64 f0, .int .i64 f1] 23)
  have hC7 := (hC6.alloc (.cells #[.int .i64 b0, .int .i64 b1] 23)).alloc (.cells #[.int .i64 f0, .int .i64 f1] 23)
  have hD7 := (hD6.alloc (.cells #[.int .i64 b0, .int .i64 b1] 23)).alloc (.cells #[.int .i64 f0, .int .i64 f1] 23)
  have h7 := (h6.alloc h6.size (.cells #[.int .i64 b0, .int .i64 b1] 23)).alloc (h6.alloc h6.size (.cells #[.int .i64 b0, .int .i64 b1] 23)).size (.cells #[.int .i64 f0, .int .i64 f1] 23)
  generalize (w6.alloc (.cells #[.int .i64 b0, .int .i64 b1] 23)).alloc (.cells #[.int .i64 f0, .int .i64 f1] 23) = w7 at hE7 hF7 hA7 hB7 hC7 hD7 h7 ⊢
  generalize w6.heap.size + 1 = F at hF7 ⊢
  generalize w6.heap.size = E at hE7 ⊢
  clear hA6 hB6 hC6 hD6 h6 x0 hlA
  generalize w.heap.size = A at hA7 ⊢
  have HT := Lib.hid h7
  have hG : Below w7.heap.size w7 w7.drew := (Below.refl _ w7).drew
  have hlA := hA7.1
  have hlB := hB7.1
  have x0 := hA7.cell 0 _ rfl
  have y0 := hB7.cell 0 _ rfl
  have x1 := hA7.cell 1 _ rfl
  have y1 := hB7.cell 1 _ rfl
  have x2 := hA7.cell 2 _ rfl
  have y2 := hB7.cell 2 _ rfl
  have x3 := hA7.cell 3 _ rfl
  have y3 := hB7.cell 3 _ rfl
  have x4 := hA7.cell 4 _ rfl
  have y4 := hB7.cell 4 _ rfl
  have x5 := hA7.cell 5 _ rfl
  have y5 := hB7.cell 5 _ rfl
  have x6 := hA7.cell 6 _ rfl
  have y6 := hB7.cell 6 _ rfl
  have x7 := hA7.cell 7 _ rfl
  have y7 := hB7.cell 7 _ rfl
  have e1 : ∀ W, (binOp .neq 25 (.agg #[.int .i64 a, .int .i64 u, .int .i64 f0, .int .i64 f1, .int .i64 b0, .int .i64 b1, .int .i64 l0, .int .i64 l1]) (.agg #[.int .i64 a, .int .i64 u, .int .i64 f0, .int .i64 f1, .int .i64 b0, .int .i64 b1, .int .i64 l0, .int .i64 l1])).run Tryd.prog W = .ok (.bool false) W := fun W => by rw [neqS, eqS_self]; rfl
  have e2 : ∀ W, (binOp .eql 25 (.agg #[.int .i64 x, .int .i64 u, .int .i64 f0, .int .i64 f1, .int .i64 b0, .int .i64 b1, .int .i64 l0, .int .i64 l1]) (.agg #[.int .i64 a, .int .i64 u, .int .i64 f0, .int .i64 f1, .int .i64 b0, .int .i64 b1, .int .i64 l0, .int .i64 l1])).run Tryd.prog W = .ok (.bool false) W := fun W => by rw [eqlS, eqS_head x a Hne.out]
  have HA := Lib.hid hA7
  have HC := Lib.hid hC7
  have HD := Lib.hid hD7
  have HE := Lib.hid hE7
  have HF := Lib.hid hF7
  clear hA7 hB7 hC7 hD7 hE7 hF7 h7
  go_region_held3 (fun w' => w'.cell? ⟨A, 0, none⟩ = some (.int .i64 a) ∧ w'.cell? ⟨A, 1, none⟩ = some (.int .i64 u) ∧ w'.cell? ⟨A, 2, none⟩ = some (.int .i64 f0) ∧ w'.cell? ⟨A, 3, none⟩ = some (.int .i64 f1) ∧ w'.cell? ⟨A, 4, none⟩ = some (.int .i64 b0) ∧ w'.cell? ⟨A, 5, none⟩ = some (.int .i64 b1) ∧ w'.cell? ⟨A, 6, none⟩ = some (.int .i64 l0) ∧ w'.cell? ⟨A, 7, none⟩ = some (.int .i64 l1) ∧ w'.cell? ⟨B, 0, none⟩ = some (.int .i64 x) ∧ w'.cell? ⟨B, 1, none⟩ = some (.int .i64 u) ∧ w'.cell? ⟨B, 2, none⟩ = some (.int .i64 f0) ∧ w'.cell? ⟨B, 3, none⟩ = some (.int .i64 f1) ∧ w'.cell? ⟨B, 4, none⟩ = some (.int .i64 b0) ∧ w'.cell? ⟨B, 5, none⟩ = some (.int .i64 b1) ∧ w'.cell? ⟨B, 6, none⟩ = some (.int .i64 l0) ∧ w'.cell? ⟨B, 7, none⟩ = some (.int .i64 l1)) (first | exact ⟨by assumption, by assumption, by assumption, by assumption, by assumption, by assumption, by assumption, by assumption, by assumption, by assumption, by assumption, by assumption, by assumption, by assumption, by assumption, by assumption⟩ | go_keep) (first
    | (go_at_call 23; ((with_reducible refine (inverse_is x u f0 f1 b0 b1 l0 l1 a HY.out _).mono ?_); (rintro e wA ⟨rfl, hbA⟩; have hG := hG.trans (hbA.mono hG.size); clear hbA; have d0 := (hG.cell (p := ⟨A, 0, none⟩) hlA).trans x0; have d1 := (hG.cell (p := ⟨A, 1, none⟩) hlA).trans x1; have d2 := (hG.cell (p := ⟨A, 2, none⟩) hlA).trans x2; have d3 := (hG.cell (p := ⟨A, 3, none⟩) hlA).trans x3; have d4 := (hG.cell (p := ⟨A, 4, none⟩) hlA).trans x4; have d5 := (hG.cell (p := ⟨A, 5, none⟩) hlA).trans x5; have d6 := (hG.cell (p := ⟨A, 6, none⟩) hlA).trans x6; have d7 := (hG.cell (p := ⟨A, 7, none⟩) hlA).trans x7; have f0_ := (hG.cell (p := ⟨B, 0, none⟩) hlB).trans y0; have f1_ := (hG.cell (p := ⟨B, 1, none⟩) hlB).trans y1; have f2_ := (hG.cell (p := ⟨B, 2, none⟩) hlB).trans y2; have f3_ := (hG.cell (p := ⟨B, 3, none⟩) hlB).trans y3; have f4_ := (hG.cell (p := ⟨B, 4, none⟩) hlB).trans y4; have f5_ := (hG.cell (p := ⟨B, 5, none⟩) hlB).trans y5; have f6_ := (hG.cell (p := ⟨B, 6, none⟩) hlB).trans y6; have f7_ := (hG.cell (p := ⟨B, 7, none⟩) hlB).trans y7; skip))))
  all_goals
    have hA := HA.out.keep hG
    have hC := HC.out.keep hG
    have hD := HD.out.keep hG
    have hE := HE.out.keep hG
    have hF := HF.out.keep hG
    have hX := Lib.hid (HT.out.trans (hG.mono HT.out.size))
    clear hG HA HC HD HE HF e1 e2
    clear hlA hlB x0 y0 x1 y1 x2 y2 x3 y3 x4 y4 x5 y5 x6 y6 x7 y7
    (try clear d0 f0_ d1 f1_ d2 f2_ d3 f3_ d4 f4_ d5 f5_ d6 f6_ d7 f7_)
    have lA := hA.1
    have lC := hC.1
    have lD := hD.1
    have lE := hE.1
    have lF := hF.1
    have a2 := hA.cell 2 _ rfl
    have a3 := hA.cell 3 _ rfl
    have a4 := hA.cell 4 _ rfl
    have a5 := hA.cell 5 _ rfl
    have c0 := hC.cell 0 _ rfl
    have c1 := hC.cell 1 _ rfl
    have d0 := hD.cell 0 _ rfl
    have d1 := hD.cell 1 _ rfl
    have k0 := hE.cell 0 _ rfl
    have k1 := hE.cell 1 _ rfl
    have g0 := hF.cell 0 _ rfl
    have g1 := hF.cell 1 _ rfl
    clear hA hC hD hE hF
    go_wp2
    go_ret
    exact ⟨rfl, hX.out⟩
set_option maxRecDepth 100000 in
set_option maxHeartbeats 8000000 in
theorem turns_10 (a u f0 f1 b0 b1 l0 l1 x : Int) (hx : bits .xor .i64 a 16 = x) (hy : bits .xor .i64 x 16 = a) (hne : x ≠ a) (h1 : (bits .and .i64 a 16 != 0) = true) (h2 : (bits .and .i64 a 32 != 0) = false) (k1 : (bits .and .i64 x 16 != 0) = false) (k2 : (bits .and .i64 x 32 != 0) = false) (w : World) (h : Tl w) :
    Calls Tryd.prog 8 #[.agg #[.int .i64 a, .int .i64 u, .int .i64 f0, .int .i64 f1, .int .i64 b0, .int .i64 b1, .int .i64 l0, .int .i64 l1]] w fun e w' => e = .returned (.bool true) ∧ Below w.heap.size w w' := by
  have H := Lib.hid h; clear h
  have s1 := Lib.hid (seen_10 a u f0 f1 b0 b1 l0 l1 h1 h2)
  have s2 := Lib.hid (seen_00 x u f0 f1 b0 b1 l0 l1 k1 k2)
  have HX := Lib.hid hx; clear hx
  have HY := Lib.hid hy; clear hy
  have Hne := Lib.hid hne; clear hne
  clear h1 k1 k2
  go_enter Tryd.func8, Tryd.ntmps8
  go_wp2_with fail
  have hA0 : Box (w.alloc (.cells #[.int .i64 a, .int .i64 u, .int .i64 f0, .int .i64 f1, .int .i64 b0, .int .i64 b1, .int .i64 l0, .int .i64 l1] 25)) w.heap.size (cS ⟨a, u, f0, f1, b0, b1, l0, l1⟩) := Box.new _ _ _
  have h0 := below_box w (.cells #[.int .i64 a, .int .i64 u, .int .i64 f0, .int .i64 f1, .int .i64 b0, .int .i64 b1, .int .i64 l0, .int .i64 l1] 25)
  generalize w.alloc (.cells #[.int .i64 a, .int .i64 u, .int .i64 f0, .int .i64 f1, .int .i64 b0, .int .i64 b1, .int .i64 l0, .int .i64 l1] 25) = w0 at hA0 h0 ⊢
  refine (works_any _ ((H.out).keep h0)).mono ?_
  rintro e w1 ⟨rfl, hb1⟩
  have hA1 := hA0.keep hb1
  have h1 := h0.trans (hb1.mono h0.size)
  clear hb1 h0 hA0
  have hlA := hA1.1
  have x0 := hA1.cell 0 _ rfl
  have x1 := hA1.cell 1 _ rfl
  have x2 := hA1.cell 2 _ rfl
  have x3 := hA1.cell 3 _ rfl
  have x4 := hA1.cell 4 _ rfl
  have x5 := hA1.cell 5 _ rfl
  have x6 := hA1.cell 6 _ rfl
  have x7 := hA1.cell 7 _ rfl
  go_wp2_with fail
  refine (inverse_is a u f0 f1 b0 b1 l0 l1 x HX.out _).mono ?_
  rintro e w2 ⟨rfl, hb2⟩
  have hA2 := hA1.keep hb2
  have h2_ := h1.trans (hb2.mono h1.size)
  clear hb2 h1 hA1 x0 x1 x2 x3 x4 x5 x6 x7 hlA
  have hlA := hA2.1
  have x0 := hA2.cell 0 _ rfl
  have x1 := hA2.cell 1 _ rfl
  have x2 := hA2.cell 2 _ rfl
  have x3 := hA2.cell 3 _ rfl
  have x4 := hA2.cell 4 _ rfl
  have x5 := hA2.cell 5 _ rfl
  have x6 := hA2.cell 6 _ rfl
  have x7 := hA2.cell 7 _ rfl
  go_wp2_with fail
  have hB3 : Box (w2.alloc (.cells #[.int .i64 x, .int .i64 u, .int .i64 f0, .int .i64 f1, .int .i64 b0, .int .i64 b1, .int .i64 l0, .int .i64 l1] 25)) w2.heap.size (cS ⟨x, u, f0, f1, b0, b1, l0, l1⟩) := Box.new _ _ _
  have hA3 := hA2.alloc (.cells #[.int .i64 x, .int .i64 u, .int .i64 f0, .int .i64 f1, .int .i64 b0, .int .i64 b1, .int .i64 l0, .int .i64 l1] 25)
  have h3 := h2_.alloc h2_.size (.cells #[.int .i64 x, .int .i64 u, .int .i64 f0, .int .i64 f1, .int .i64 b0, .int .i64 b1, .int .i64 l0, .int .i64 l1] 25)
  generalize w2.alloc (.cells #[.int .i64 x, .int .i64 u, .int .i64 f0, .int .i64 f1, .int .i64 b0, .int .i64 b1, .int .i64 l0, .int .i64 l1] 25) = w3 at hB3 hA3 h3 ⊢
  generalize w2.heap.size = B at hB3 ⊢
  clear hA2 h2_ x0 x1 x2 x3 x4 x5 x6 x7 hlA
  refine (seen_is a u f0 f1 b0 b1 l0 l1 b0 b1 f0 f1 s1.out _).mono ?_
  rintro e w4 ⟨rfl, hb4⟩
  have hA4 := hA3.keep hb4
  have hB4 := hB3.keep hb4
  have h4 := h3.trans (hb4.mono h3.size)
  clear hb4 h3 hA3 hB3
  have hlB := hB4.1
  have y0 := hB4.cell 0 _ rfl
  have y1 := hB4.cell 1 _ rfl
  have y2 := hB4.cell 2 _ rfl
  have y3 := hB4.cell 3 _ rfl
  have y4 := hB4.cell 4 _ rfl
  have y5 := hB4.cell 5 _ rfl
  have y6 := hB4.cell 6 _ rfl
  have y7 := hB4.cell 7 _ rfl
  go_wp2_with fail
  have hC5 : Box ((w4.alloc (.cells #[.int .i64 b0, .int .i64 b1] 23)).alloc (.cells #[.int .i64 f0, .int .i64 f1] 23)) w4.heap.size [.int .i64 b0, .int .i64 b1] := (Box.new _ _ _).alloc _
  have hD5 : Box ((w4.alloc (.cells #[.int .i64 b0, .int .i64 b1] 23)).alloc (.cells #[.int .i64 f0, .int .i64 f1] 23)) (w4.heap.size + 1) [.int .i64 f0, .int .i64 f1] := Box.of (alloc1_at _ _ _)
  have hA5 := (hA4.alloc (.cells #[.int .i64 b0, .int .i64 b1] 23)).alloc (.cells #[.int .i64 f0, .int .i64 f1] 23)
  have hB5 := (hB4.alloc (.cells #[.int .i64 b0, .int .i64 b1] 23)).alloc (.cells #[.int .i64 f0, .int .i64 f1] 23)
  have h5 := (h4.alloc h4.size (.cells #[.int .i64 b0, .int .i64 b1] 23)).alloc (h4.alloc h4.size (.cells #[.int .i64 b0, .int .i64 b1] 23)).size (.cells #[.int .i64 f0, .int .i64 f1] 23)
  generalize (w4.alloc (.cells #[.int .i64 b0, .int .i64 b1] 23)).alloc (.cells #[.int .i64 f0, .int .i64 f1] 23) = w5 at hC5 hD5 hA5 hB5 h5 ⊢
  generalize w4.heap.size + 1 = D at hD5 ⊢
  generalize w4.heap.size = C at hC5 ⊢
  clear hA4 hB4 h4 y0 y1 y2 y3 y4 y5 y6 y7 hlB
  refine (seen_is x u f0 f1 b0 b1 l0 l1 f0 f1 b0 b1 s2.out _).mono ?_
  rintro e w6 ⟨rfl, hb6⟩
  have hA6 := hA5.keep hb6
  have hB6 := hB5.keep hb6
  have hC6 := hC5.keep hb6
  have hD6 := hD5.keep hb6
  have h6 := h5.trans (hb6.mono h5.size)
  clear hb6 h5 hA5 hB5 hC5 hD5
  have hlA := hA6.1
  have x0 := hA6.cell 0 _ rfl
  go_wp2_with fail
  have hE7 : Box ((w6.alloc (.cells #[.int .i64 f0, .int .i64 f1] 23)).alloc (.cells #[.int .i64 b0, .int .i64 b1] 23)) w6.heap.size [.int .i64 f0, .int .i64 f1] := (Box.new _ _ _).alloc _
  have hF7 : Box ((w6.alloc (.cells #[.int .i64 f0, .int .i64 f1] 23)).alloc (.cells #[.int .i64 b0, .int .i64 b1] 23)) (w6.heap.size + 1) [.int .i64 b0, .int .i64 b1] := Box.of (alloc1_at _ _ _)
  have hA7 := (hA6.alloc (.cells #[.int .i64 f0, .int .i64 f1] 23)).alloc (.cells #[.int .i64 b0, .int .i64 b1] 23)
  have hB7 := (hB6.alloc (.cells #[.int .i64 f0, .int .i64 f1] 23)).alloc (.cells #[.int .i64 b0, .int .i64 b1] 23)
  have hC7 := (hC6.alloc (.cells #[.int .i64 f0, .int .i64 f1] 23)).alloc (.cells #[.int .i64 b0, .int .i64 b1] 23)
  have hD7 := (hD6.alloc (.cells #[.int .i64 f0, .int .i64 f1] 23)).alloc (.cells #[.int .i64 b0, .int .i64 b1] 23)
  have h7 := (h6.alloc h6.size (.cells #[.int .i64 f0, .int .i64 f1] 23)).alloc (h6.alloc h6.size (.cells #[.int .i64 f0, .int .i64 f1] 23)).size (.cells #[.int .i64 b0, .int .i64 b1] 23)
  generalize (w6.alloc (.cells #[.int .i64 f0, .int .i64 f1] 23)).alloc (.cells #[.int .i64 b0, .int .i64 b1] 23) = w7 at hE7 hF7 hA7 hB7 hC7 hD7 h7 ⊢
  generalize w6.heap.size + 1 = F at hF7 ⊢
  generalize w6.heap.size = E at hE7 ⊢
  clear hA6 hB6 hC6 hD6 h6 x0 hlA
  generalize w.heap.size = A at hA7 ⊢
  have HT := Lib.hid h7
  have hG : Below w7.heap.size w7 w7.drew := (Below.refl _ w7).drew
  have hlA := hA7.1
  have hlB := hB7.1
  have x0 := hA7.cell 0 _ rfl
  have y0 := hB7.cell 0 _ rfl
  have x1 := hA7.cell 1 _ rfl
  have y1 := hB7.cell 1 _ rfl
  have x2 := hA7.cell 2 _ rfl
  have y2 := hB7.cell 2 _ rfl
  have x3 := hA7.cell 3 _ rfl
  have y3 := hB7.cell 3 _ rfl
  have x4 := hA7.cell 4 _ rfl
  have y4 := hB7.cell 4 _ rfl
  have x5 := hA7.cell 5 _ rfl
  have y5 := hB7.cell 5 _ rfl
  have x6 := hA7.cell 6 _ rfl
  have y6 := hB7.cell 6 _ rfl
  have x7 := hA7.cell 7 _ rfl
  have y7 := hB7.cell 7 _ rfl
  have e1 : ∀ W, (binOp .neq 25 (.agg #[.int .i64 a, .int .i64 u, .int .i64 f0, .int .i64 f1, .int .i64 b0, .int .i64 b1, .int .i64 l0, .int .i64 l1]) (.agg #[.int .i64 a, .int .i64 u, .int .i64 f0, .int .i64 f1, .int .i64 b0, .int .i64 b1, .int .i64 l0, .int .i64 l1])).run Tryd.prog W = .ok (.bool false) W := fun W => by rw [neqS, eqS_self]; rfl
  have e2 : ∀ W, (binOp .eql 25 (.agg #[.int .i64 x, .int .i64 u, .int .i64 f0, .int .i64 f1, .int .i64 b0, .int .i64 b1, .int .i64 l0, .int .i64 l1]) (.agg #[.int .i64 a, .int .i64 u, .int .i64 f0, .int .i64 f1, .int .i64 b0, .int .i64 b1, .int .i64 l0, .int .i64 l1])).run Tryd.prog W = .ok (.bool false) W := fun W => by rw [eqlS, eqS_head x a Hne.out]
  have HA := Lib.hid hA7
  have HC := Lib.hid hC7
  have HD := Lib.hid hD7
  have HE := Lib.hid hE7
  have HF := Lib.hid hF7
  clear hA7 hB7 hC7 hD7 hE7 hF7 h7
  go_region_held3 (fun w' => w'.cell? ⟨A, 0, none⟩ = some (.int .i64 a) ∧ w'.cell? ⟨A, 1, none⟩ = some (.int .i64 u) ∧ w'.cell? ⟨A, 2, none⟩ = some (.int .i64 f0) ∧ w'.cell? ⟨A, 3, none⟩ = some (.int .i64 f1) ∧ w'.cell? ⟨A, 4, none⟩ = some (.int .i64 b0) ∧ w'.cell? ⟨A, 5, none⟩ = some (.int .i64 b1) ∧ w'.cell? ⟨A, 6, none⟩ = some (.int .i64 l0) ∧ w'.cell? ⟨A, 7, none⟩ = some (.int .i64 l1) ∧ w'.cell? ⟨B, 0, none⟩ = some (.int .i64 x) ∧ w'.cell? ⟨B, 1, none⟩ = some (.int .i64 u) ∧ w'.cell? ⟨B, 2, none⟩ = some (.int .i64 f0) ∧ w'.cell? ⟨B, 3, none⟩ = some (.int .i64 f1) ∧ w'.cell? ⟨B, 4, none⟩ = some (.int .i64 b0) ∧ w'.cell? ⟨B, 5, none⟩ = some (.int .i64 b1) ∧ w'.cell? ⟨B, 6, none⟩ = some (.int .i64 l0) ∧ w'.cell? ⟨B, 7, none⟩ = some (.int .i64 l1)) (first | exact ⟨by assumption, by assumption, by assumption, by assumption, by assumption, by assumption, by assumption, by assumption, by assumption, by assumption, by assumption, by assumption, by assumption, by assumption, by assumption, by assumption⟩ | go_keep) (first
    | (go_at_call 23; ((with_reducible refine (inverse_is x u f0 f1 b0 b1 l0 l1 a HY.out _).mono ?_); (rintro e wA ⟨rfl, hbA⟩; have hG := hG.trans (hbA.mono hG.size); clear hbA; have d0 := (hG.cell (p := ⟨A, 0, none⟩) hlA).trans x0; have d1 := (hG.cell (p := ⟨A, 1, none⟩) hlA).trans x1; have d2 := (hG.cell (p := ⟨A, 2, none⟩) hlA).trans x2; have d3 := (hG.cell (p := ⟨A, 3, none⟩) hlA).trans x3; have d4 := (hG.cell (p := ⟨A, 4, none⟩) hlA).trans x4; have d5 := (hG.cell (p := ⟨A, 5, none⟩) hlA).trans x5; have d6 := (hG.cell (p := ⟨A, 6, none⟩) hlA).trans x6; have d7 := (hG.cell (p := ⟨A, 7, none⟩) hlA).trans x7; have f0_ := (hG.cell (p := ⟨B, 0, none⟩) hlB).trans y0; have f1_ := (hG.cell (p := ⟨B, 1, none⟩) hlB).trans y1; have f2_ := (hG.cell (p := ⟨B, 2, none⟩) hlB).trans y2; have f3_ := (hG.cell (p := ⟨B, 3, none⟩) hlB).trans y3; have f4_ := (hG.cell (p := ⟨B, 4, none⟩) hlB).trans y4; have f5_ := (hG.cell (p := ⟨B, 5, none⟩) hlB).trans y5; have f6_ := (hG.cell (p := ⟨B, 6, none⟩) hlB).trans y6; have f7_ := (hG.cell (p := ⟨B, 7, none⟩) hlB).trans y7; skip))))
  all_goals
    have hA := HA.out.keep hG
    have hC := HC.out.keep hG
    have hD := HD.out.keep hG
    have hE := HE.out.keep hG
    have hF := HF.out.keep hG
    have hX := Lib.hid (HT.out.trans (hG.mono HT.out.size))
    clear hG HA HC HD HE HF e1 e2
    clear hlA hlB x0 y0 x1 y1 x2 y2 x3 y3 x4 y4 x5 y5 x6 y6 x7 y7
    (try clear d0 f0_ d1 f1_ d2 f2_ d3 f3_ d4 f4_ d5 f5_ d6 f6_ d7 f7_)
    have lA := hA.1
    have lC := hC.1
    have lD := hD.1
    have lE := hE.1
    have lF := hF.1
    have a2 := hA.cell 2 _ rfl
    have a3 := hA.cell 3 _ rfl
    have a4 := hA.cell 4 _ rfl
    have a5 := hA.cell 5 _ rfl
    have c0 := hC.cell 0 _ rfl
    have c1 := hC.cell 1 _ rfl
    have d0 := hD.cell 0 _ rfl
    have d1 := hD.cell 1 _ rfl
    have k0 := hE.cell 0 _ rfl
    have k1 := hE.cell 1 _ rfl
    have g0 := hF.cell 0 _ rfl
    have g1 := hF.cell 1 _ rfl
    clear hA hC hD hE hF
    go_wp2
    go_ret
    exact ⟨rfl, hX.out⟩
set_option maxRecDepth 100000 in
set_option maxHeartbeats 8000000 in
theorem turns_01 (a u f0 f1 b0 b1 l0 l1 x : Int) (hx : bits .xor .i64 a 16 = x) (hy : bits .xor .i64 x 16 = a) (hne : x ≠ a) (h1 : (bits .and .i64 a 16 != 0) = false) (h2 : (bits .and .i64 a 32 != 0) = true) (k1 : (bits .and .i64 x 16 != 0) = true) (k2 : (bits .and .i64 x 32 != 0) = true) (w : World) (h : Tl w) :
    Calls Tryd.prog 8 #[.agg #[.int .i64 a, .int .i64 u, .int .i64 f0, .int .i64 f1, .int .i64 b0, .int .i64 b1, .int .i64 l0, .int .i64 l1]] w fun e w' => e = .returned (.bool true) ∧ Below w.heap.size w w' := by
  have H := Lib.hid h; clear h
  have s1 := Lib.hid (seen_01 a u f0 f1 b0 b1 l0 l1 h1 h2)
  have s2 := Lib.hid (seen_11 x u f0 f1 b0 b1 l0 l1 k1 k2)
  have HX := Lib.hid hx; clear hx
  have HY := Lib.hid hy; clear hy
  have Hne := Lib.hid hne; clear hne
  clear h1 k1 k2
  go_enter Tryd.func8, Tryd.ntmps8
  go_wp2_with fail
  have hA0 : Box (w.alloc (.cells #[.int .i64 a, .int .i64 u, .int .i64 f0, .int .i64 f1, .int .i64 b0, .int .i64 b1, .int .i64 l0, .int .i64 l1] 25)) w.heap.size (cS ⟨a, u, f0, f1, b0, b1, l0, l1⟩) := Box.new _ _ _
  have h0 := below_box w (.cells #[.int .i64 a, .int .i64 u, .int .i64 f0, .int .i64 f1, .int .i64 b0, .int .i64 b1, .int .i64 l0, .int .i64 l1] 25)
  generalize w.alloc (.cells #[.int .i64 a, .int .i64 u, .int .i64 f0, .int .i64 f1, .int .i64 b0, .int .i64 b1, .int .i64 l0, .int .i64 l1] 25) = w0 at hA0 h0 ⊢
  refine (works_any _ ((H.out).keep h0)).mono ?_
  rintro e w1 ⟨rfl, hb1⟩
  have hA1 := hA0.keep hb1
  have h1 := h0.trans (hb1.mono h0.size)
  clear hb1 h0 hA0
  have hlA := hA1.1
  have x0 := hA1.cell 0 _ rfl
  have x1 := hA1.cell 1 _ rfl
  have x2 := hA1.cell 2 _ rfl
  have x3 := hA1.cell 3 _ rfl
  have x4 := hA1.cell 4 _ rfl
  have x5 := hA1.cell 5 _ rfl
  have x6 := hA1.cell 6 _ rfl
  have x7 := hA1.cell 7 _ rfl
  go_wp2_with fail
  refine (inverse_is a u f0 f1 b0 b1 l0 l1 x HX.out _).mono ?_
  rintro e w2 ⟨rfl, hb2⟩
  have hA2 := hA1.keep hb2
  have h2_ := h1.trans (hb2.mono h1.size)
  clear hb2 h1 hA1 x0 x1 x2 x3 x4 x5 x6 x7 hlA
  have hlA := hA2.1
  have x0 := hA2.cell 0 _ rfl
  have x1 := hA2.cell 1 _ rfl
  have x2 := hA2.cell 2 _ rfl
  have x3 := hA2.cell 3 _ rfl
  have x4 := hA2.cell 4 _ rfl
  have x5 := hA2.cell 5 _ rfl
  have x6 := hA2.cell 6 _ rfl
  have x7 := hA2.cell 7 _ rfl
  go_wp2_with fail
  have hB3 : Box (w2.alloc (.cells #[.int .i64 x, .int .i64 u, .int .i64 f0, .int .i64 f1, .int .i64 b0, .int .i64 b1, .int .i64 l0, .int .i64 l1] 25)) w2.heap.size (cS ⟨x, u, f0, f1, b0, b1, l0, l1⟩) := Box.new _ _ _
  have hA3 := hA2.alloc (.cells #[.int .i64 x, .int .i64 u, .int .i64 f0, .int .i64 f1, .int .i64 b0, .int .i64 b1, .int .i64 l0, .int .i64 l1] 25)
  have h3 := h2_.alloc h2_.size (.cells #[.int .i64 x, .int .i64 u, .int .i64 f0, .int .i64 f1, .int .i64 b0, .int .i64 b1, .int .i64 l0, .int .i64 l1] 25)
  generalize w2.alloc (.cells #[.int .i64 x, .int .i64 u, .int .i64 f0, .int .i64 f1, .int .i64 b0, .int .i64 b1, .int .i64 l0, .int .i64 l1] 25) = w3 at hB3 hA3 h3 ⊢
  generalize w2.heap.size = B at hB3 ⊢
  clear hA2 h2_ x0 x1 x2 x3 x4 x5 x6 x7 hlA
  refine (seen_is a u f0 f1 b0 b1 l0 l1 b0 b1 b0 b1 s1.out _).mono ?_
  rintro e w4 ⟨rfl, hb4⟩
  have hA4 := hA3.keep hb4
  have hB4 := hB3.keep hb4
  have h4 := h3.trans (hb4.mono h3.size)
  clear hb4 h3 hA3 hB3
  have hlB := hB4.1
  have y0 := hB4.cell 0 _ rfl
  have y1 := hB4.cell 1 _ rfl
  have y2 := hB4.cell 2 _ rfl
  have y3 := hB4.cell 3 _ rfl
  have y4 := hB4.cell 4 _ rfl
  have y5 := hB4.cell 5 _ rfl
  have y6 := hB4.cell 6 _ rfl
  have y7 := hB4.cell 7 _ rfl
  go_wp2_with fail
  have hC5 : Box ((w4.alloc (.cells #[.int .i64 b0, .int .i64 b1] 23)).alloc (.cells #[.int .i64 b0, .int .i64 b1] 23)) w4.heap.size [.int .i64 b0, .int .i64 b1] := (Box.new _ _ _).alloc _
  have hD5 : Box ((w4.alloc (.cells #[.int .i64 b0, .int .i64 b1] 23)).alloc (.cells #[.int .i64 b0, .int .i64 b1] 23)) (w4.heap.size + 1) [.int .i64 b0, .int .i64 b1] := Box.of (alloc1_at _ _ _)
  have hA5 := (hA4.alloc (.cells #[.int .i64 b0, .int .i64 b1] 23)).alloc (.cells #[.int .i64 b0, .int .i64 b1] 23)
  have hB5 := (hB4.alloc (.cells #[.int .i64 b0, .int .i64 b1] 23)).alloc (.cells #[.int .i64 b0, .int .i64 b1] 23)
  have h5 := (h4.alloc h4.size (.cells #[.int .i64 b0, .int .i64 b1] 23)).alloc (h4.alloc h4.size (.cells #[.int .i64 b0, .int .i64 b1] 23)).size (.cells #[.int .i64 b0, .int .i64 b1] 23)
  generalize (w4.alloc (.cells #[.int .i64 b0, .int .i64 b1] 23)).alloc (.cells #[.int .i64 b0, .int .i64 b1] 23) = w5 at hC5 hD5 hA5 hB5 h5 ⊢
  generalize w4.heap.size + 1 = D at hD5 ⊢
  generalize w4.heap.size = C at hC5 ⊢
  clear hA4 hB4 h4 y0 y1 y2 y3 y4 y5 y6 y7 hlB
  refine (seen_is x u f0 f1 b0 b1 l0 l1 f0 f1 f0 f1 s2.out _).mono ?_
  rintro e w6 ⟨rfl, hb6⟩
  have hA6 := hA5.keep hb6
  have hB6 := hB5.keep hb6
  have hC6 := hC5.keep hb6
  have hD6 := hD5.keep hb6
  have h6 := h5.trans (hb6.mono h5.size)
  clear hb6 h5 hA5 hB5 hC5 hD5
  have hlA := hA6.1
  have x0 := hA6.cell 0 _ rfl
  go_wp2_with fail
  have hE7 : Box ((w6.alloc (.cells #[.int .i64 f0, .int .i64 f1] 23)).alloc (.cells #[.int .i64 f0, .int .i64 f1] 23)) w6.heap.size [.int .i64 f0, .int .i64 f1] := (Box.new _ _ _).alloc _
  have hF7 : Box ((w6.alloc (.cells #[.int .i64 f0, .int .i64 f1] 23)).alloc (.cells #[.int .i64 f0, .int .i64 f1] 23)) (w6.heap.size + 1) [.int .i64 f0, .int .i64 f1] := Box.of (alloc1_at _ _ _)
  have hA7 := (hA6.alloc (.cells #[.int .i64 f0, .int .i64 f1] 23)).alloc (.cells #[.int .i64 f0, .int .i64 f1] 23)
  have hB7 := (hB6.alloc (.cells #[.int .i64 f0, .int .i64 f1] 23)).alloc (.cells #[.int .i64 f0, .int .i64 f1] 23)
  have hC7 := (hC6.alloc (.cells #[.int .i64 f0, .int .i64 f1] 23)).alloc (.cells #[.int .i64 f0, .int .i64 f1] 23)
  have hD7 := (hD6.alloc (.cells #[.int .i64 f0, .int .i64 f1] 23)).alloc (.cells #[.int .i64 f0, .int .i64 f1] 23)
  have h7 := (h6.alloc h6.size (.cells #[.int .i64 f0, .int .i64 f1] 23)).alloc (h6.alloc h6.size (.cells #[.int .i64 f0, .int .i64 f1] 23)).size (.cells #[.int .i64 f0, .int .i64 f1] 23)
  generalize (w6.alloc (.cells #[.int .i64 f0, .int .i64 f1] 23)).alloc (.cells #[.int .i64 f0, .int .i64 f1] 23) = w7 at hE7 hF7 hA7 hB7 hC7 hD7 h7 ⊢
  generalize w6.heap.size + 1 = F at hF7 ⊢
  generalize w6.heap.size = E at hE7 ⊢
  clear hA6 hB6 hC6 hD6 h6 x0 hlA
  generalize w.heap.size = A at hA7 ⊢
  have HT := Lib.hid h7
  have hG : Below w7.heap.size w7 w7.drew := (Below.refl _ w7).drew
  have hlA := hA7.1
  have hlB := hB7.1
  have x0 := hA7.cell 0 _ rfl
  have y0 := hB7.cell 0 _ rfl
  have x1 := hA7.cell 1 _ rfl
  have y1 := hB7.cell 1 _ rfl
  have x2 := hA7.cell 2 _ rfl
  have y2 := hB7.cell 2 _ rfl
  have x3 := hA7.cell 3 _ rfl
  have y3 := hB7.cell 3 _ rfl
  have x4 := hA7.cell 4 _ rfl
  have y4 := hB7.cell 4 _ rfl
  have x5 := hA7.cell 5 _ rfl
  have y5 := hB7.cell 5 _ rfl
  have x6 := hA7.cell 6 _ rfl
  have y6 := hB7.cell 6 _ rfl
  have x7 := hA7.cell 7 _ rfl
  have y7 := hB7.cell 7 _ rfl
  have e1 : ∀ W, (binOp .neq 25 (.agg #[.int .i64 a, .int .i64 u, .int .i64 f0, .int .i64 f1, .int .i64 b0, .int .i64 b1, .int .i64 l0, .int .i64 l1]) (.agg #[.int .i64 a, .int .i64 u, .int .i64 f0, .int .i64 f1, .int .i64 b0, .int .i64 b1, .int .i64 l0, .int .i64 l1])).run Tryd.prog W = .ok (.bool false) W := fun W => by rw [neqS, eqS_self]; rfl
  have e2 : ∀ W, (binOp .eql 25 (.agg #[.int .i64 x, .int .i64 u, .int .i64 f0, .int .i64 f1, .int .i64 b0, .int .i64 b1, .int .i64 l0, .int .i64 l1]) (.agg #[.int .i64 a, .int .i64 u, .int .i64 f0, .int .i64 f1, .int .i64 b0, .int .i64 b1, .int .i64 l0, .int .i64 l1])).run Tryd.prog W = .ok (.bool false) W := fun W => by rw [eqlS, eqS_head x a Hne.out]
  have HA := Lib.hid hA7
  have HC := Lib.hid hC7
  have HD := Lib.hid hD7
  have HE := Lib.hid hE7
  have HF := Lib.hid hF7
  clear hA7 hB7 hC7 hD7 hE7 hF7 h7
  go_region_held3 (fun w' => w'.cell? ⟨A, 0, none⟩ = some (.int .i64 a) ∧ w'.cell? ⟨A, 1, none⟩ = some (.int .i64 u) ∧ w'.cell? ⟨A, 2, none⟩ = some (.int .i64 f0) ∧ w'.cell? ⟨A, 3, none⟩ = some (.int .i64 f1) ∧ w'.cell? ⟨A, 4, none⟩ = some (.int .i64 b0) ∧ w'.cell? ⟨A, 5, none⟩ = some (.int .i64 b1) ∧ w'.cell? ⟨A, 6, none⟩ = some (.int .i64 l0) ∧ w'.cell? ⟨A, 7, none⟩ = some (.int .i64 l1) ∧ w'.cell? ⟨B, 0, none⟩ = some (.int .i64 x) ∧ w'.cell? ⟨B, 1, none⟩ = some (.int .i64 u) ∧ w'.cell? ⟨B, 2, none⟩ = some (.int .i64 f0) ∧ w'.cell? ⟨B, 3, none⟩ = some (.int .i64 f1) ∧ w'.cell? ⟨B, 4, none⟩ = some (.int .i64 b0) ∧ w'.cell? ⟨B, 5, none⟩ = some (.int .i64 b1) ∧ w'.cell? ⟨B, 6, none⟩ = some (.int .i64 l0) ∧ w'.cell? ⟨B, 7, none⟩ = some (.int .i64 l1)) (first | exact ⟨by assumption, by assumption, by assumption, by assumption, by assumption, by assumption, by assumption, by assumption, by assumption, by assumption, by assumption, by assumption, by assumption, by assumption, by assumption, by assumption⟩ | go_keep) (first
    | (go_at_call 23; ((with_reducible refine (inverse_is x u f0 f1 b0 b1 l0 l1 a HY.out _).mono ?_); (rintro e wA ⟨rfl, hbA⟩; have hG := hG.trans (hbA.mono hG.size); clear hbA; have d0 := (hG.cell (p := ⟨A, 0, none⟩) hlA).trans x0; have d1 := (hG.cell (p := ⟨A, 1, none⟩) hlA).trans x1; have d2 := (hG.cell (p := ⟨A, 2, none⟩) hlA).trans x2; have d3 := (hG.cell (p := ⟨A, 3, none⟩) hlA).trans x3; have d4 := (hG.cell (p := ⟨A, 4, none⟩) hlA).trans x4; have d5 := (hG.cell (p := ⟨A, 5, none⟩) hlA).trans x5; have d6 := (hG.cell (p := ⟨A, 6, none⟩) hlA).trans x6; have d7 := (hG.cell (p := ⟨A, 7, none⟩) hlA).trans x7; have f0_ := (hG.cell (p := ⟨B, 0, none⟩) hlB).trans y0; have f1_ := (hG.cell (p := ⟨B, 1, none⟩) hlB).trans y1; have f2_ := (hG.cell (p := ⟨B, 2, none⟩) hlB).trans y2; have f3_ := (hG.cell (p := ⟨B, 3, none⟩) hlB).trans y3; have f4_ := (hG.cell (p := ⟨B, 4, none⟩) hlB).trans y4; have f5_ := (hG.cell (p := ⟨B, 5, none⟩) hlB).trans y5; have f6_ := (hG.cell (p := ⟨B, 6, none⟩) hlB).trans y6; have f7_ := (hG.cell (p := ⟨B, 7, none⟩) hlB).trans y7; skip))))
  all_goals
    have hA := HA.out.keep hG
    have hC := HC.out.keep hG
    have hD := HD.out.keep hG
    have hE := HE.out.keep hG
    have hF := HF.out.keep hG
    have hX := Lib.hid (HT.out.trans (hG.mono HT.out.size))
    clear hG HA HC HD HE HF e1 e2
    clear hlA hlB x0 y0 x1 y1 x2 y2 x3 y3 x4 y4 x5 y5 x6 y6 x7 y7
    (try clear d0 f0_ d1 f1_ d2 f2_ d3 f3_ d4 f4_ d5 f5_ d6 f6_ d7 f7_)
    have lA := hA.1
    have lC := hC.1
    have lD := hD.1
    have lE := hE.1
    have lF := hF.1
    have a2 := hA.cell 2 _ rfl
    have a3 := hA.cell 3 _ rfl
    have a4 := hA.cell 4 _ rfl
    have a5 := hA.cell 5 _ rfl
    have c0 := hC.cell 0 _ rfl
    have c1 := hC.cell 1 _ rfl
    have d0 := hD.cell 0 _ rfl
    have d1 := hD.cell 1 _ rfl
    have k0 := hE.cell 0 _ rfl
    have k1 := hE.cell 1 _ rfl
    have g0 := hF.cell 0 _ rfl
    have g1 := hF.cell 1 _ rfl
    clear hA hC hD hE hF
    go_wp2
    go_ret
    exact ⟨rfl, hX.out⟩
set_option maxRecDepth 100000 in
set_option maxHeartbeats 8000000 in
theorem turns_11 (a u f0 f1 b0 b1 l0 l1 x : Int) (hx : bits .xor .i64 a 16 = x) (hy : bits .xor .i64 x 16 = a) (hne : x ≠ a) (h1 : (bits .and .i64 a 16 != 0) = true) (h2 : (bits .and .i64 a 32 != 0) = true) (k1 : (bits .and .i64 x 16 != 0) = false) (k2 : (bits .and .i64 x 32 != 0) = true) (w : World) (h : Tl w) :
    Calls Tryd.prog 8 #[.agg #[.int .i64 a, .int .i64 u, .int .i64 f0, .int .i64 f1, .int .i64 b0, .int .i64 b1, .int .i64 l0, .int .i64 l1]] w fun e w' => e = .returned (.bool true) ∧ Below w.heap.size w w' := by
  have H := Lib.hid h; clear h
  have s1 := Lib.hid (seen_11 a u f0 f1 b0 b1 l0 l1 h1 h2)
  have s2 := Lib.hid (seen_01 x u f0 f1 b0 b1 l0 l1 k1 k2)
  have HX := Lib.hid hx; clear hx
  have HY := Lib.hid hy; clear hy
  have Hne := Lib.hid hne; clear hne
  clear h1 k1 k2
  go_enter Tryd.func8, Tryd.ntmps8
  go_wp2_with fail
  have hA0 : Box (w.alloc (.cells #[.int .i64 a, .int .i64 u, .int .i64 f0, .int .i64 f1, .int .i64 b0, .int .i64 b1, .int .i64 l0, .int .i64 l1] 25)) w.heap.size (cS ⟨a, u, f0, f1, b0, b1, l0, l1⟩) := Box.new _ _ _
  have h0 := below_box w (.cells #[.int .i64 a, .int .i64 u, .int .i64 f0, .int .i64 f1, .int .i64 b0, .int .i64 b1, .int .i64 l0, .int .i64 l1] 25)
  generalize w.alloc (.cells #[.int .i64 a, .int .i64 u, .int .i64 f0, .int .i64 f1, .int .i64 b0, .int .i64 b1, .int .i64 l0, .int .i64 l1] 25) = w0 at hA0 h0 ⊢
  refine (works_any _ ((H.out).keep h0)).mono ?_
  rintro e w1 ⟨rfl, hb1⟩
  have hA1 := hA0.keep hb1
  have h1 := h0.trans (hb1.mono h0.size)
  clear hb1 h0 hA0
  have hlA := hA1.1
  have x0 := hA1.cell 0 _ rfl
  have x1 := hA1.cell 1 _ rfl
  have x2 := hA1.cell 2 _ rfl
  have x3 := hA1.cell 3 _ rfl
  have x4 := hA1.cell 4 _ rfl
  have x5 := hA1.cell 5 _ rfl
  have x6 := hA1.cell 6 _ rfl
  have x7 := hA1.cell 7 _ rfl
  go_wp2_with fail
  refine (inverse_is a u f0 f1 b0 b1 l0 l1 x HX.out _).mono ?_
  rintro e w2 ⟨rfl, hb2⟩
  have hA2 := hA1.keep hb2
  have h2_ := h1.trans (hb2.mono h1.size)
  clear hb2 h1 hA1 x0 x1 x2 x3 x4 x5 x6 x7 hlA
  have hlA := hA2.1
  have x0 := hA2.cell 0 _ rfl
  have x1 := hA2.cell 1 _ rfl
  have x2 := hA2.cell 2 _ rfl
  have x3 := hA2.cell 3 _ rfl
  have x4 := hA2.cell 4 _ rfl
  have x5 := hA2.cell 5 _ rfl
  have x6 := hA2.cell 6 _ rfl
  have x7 := hA2.cell 7 _ rfl
  go_wp2_with fail
  have hB3 : Box (w2.alloc (.cells #[.int .i64 x, .int .i64 u, .int .i64 f0, .int .i64 f1, .int .i64 b0, .int .i64 b1, .int .i64 l0, .int .i64 l1] 25)) w2.heap.size (cS ⟨x, u, f0, f1, b0, b1, l0, l1⟩) := Box.new _ _ _
  have hA3 := hA2.alloc (.cells #[.int .i64 x, .int .i64 u, .int .i64 f0, .int .i64 f1, .int .i64 b0, .int .i64 b1, .int .i64 l0, .int .i64 l1] 25)
  have h3 := h2_.alloc h2_.size (.cells #[.int .i64 x, .int .i64 u, .int .i64 f0, .int .i64 f1, .int .i64 b0, .int .i64 b1, .int .i64 l0, .int .i64 l1] 25)
  generalize w2.alloc (.cells #[.int .i64 x, .int .i64 u, .int .i64 f0, .int .i64 f1, .int .i64 b0, .int .i64 b1, .int .i64 l0, .int .i64 l1] 25) = w3 at hB3 hA3 h3 ⊢
  generalize w2.heap.size = B at hB3 ⊢
  clear hA2 h2_ x0 x1 x2 x3 x4 x5 x6 x7 hlA
  refine (seen_is a u f0 f1 b0 b1 l0 l1 f0 f1 f0 f1 s1.out _).mono ?_
  rintro e w4 ⟨rfl, hb4⟩
  have hA4 := hA3.keep hb4
  have hB4 := hB3.keep hb4
  have h4 := h3.trans (hb4.mono h3.size)
  clear hb4 h3 hA3 hB3
  have hlB := hB4.1
  have y0 := hB4.cell 0 _ rfl
  have y1 := hB4.cell 1 _ rfl
  have y2 := hB4.cell 2 _ rfl
  have y3 := hB4.cell 3 _ rfl
  have y4 := hB4.cell 4 _ rfl
  have y5 := hB4.cell 5 _ rfl
  have y6 := hB4.cell 6 _ rfl
  have y7 := hB4.cell 7 _ rfl
  go_wp2_with fail
  have hC5 : Box ((w4.alloc (.cells #[.int .i64 f0, .int .i64 f1] 23)).alloc (.cells #[.int .i64 f0, .int .i64 f1] 23)) w4.heap.size [.int .i64 f0, .int .i64 f1] := (Box.new _ _ _).alloc _
  have hD5 : Box ((w4.alloc (.cells #[.int .i64 f0, .int .i64 f1] 23)).alloc (.cells #[.int .i64 f0, .int .i64 f1] 23)) (w4.heap.size + 1) [.int .i64 f0, .int .i64 f1] := Box.of (alloc1_at _ _ _)
  have hA5 := (hA4.alloc (.cells #[.int .i64 f0, .int .i64 f1] 23)).alloc (.cells #[.int .i64 f0, .int .i64 f1] 23)
  have hB5 := (hB4.alloc (.cells #[.int .i64 f0, .int .i64 f1] 23)).alloc (.cells #[.int .i64 f0, .int .i64 f1] 23)
  have h5 := (h4.alloc h4.size (.cells #[.int .i64 f0, .int .i64 f1] 23)).alloc (h4.alloc h4.size (.cells #[.int .i64 f0, .int .i64 f1] 23)).size (.cells #[.int .i64 f0, .int .i64 f1] 23)
  generalize (w4.alloc (.cells #[.int .i64 f0, .int .i64 f1] 23)).alloc (.cells #[.int .i64 f0, .int .i64 f1] 23) = w5 at hC5 hD5 hA5 hB5 h5 ⊢
  generalize w4.heap.size + 1 = D at hD5 ⊢
  generalize w4.heap.size = C at hC5 ⊢
  clear hA4 hB4 h4 y0 y1 y2 y3 y4 y5 y6 y7 hlB
  refine (seen_is x u f0 f1 b0 b1 l0 l1 b0 b1 b0 b1 s2.out _).mono ?_
  rintro e w6 ⟨rfl, hb6⟩
  have hA6 := hA5.keep hb6
  have hB6 := hB5.keep hb6
  have hC6 := hC5.keep hb6
  have hD6 := hD5.keep hb6
  have h6 := h5.trans (hb6.mono h5.size)
  clear hb6 h5 hA5 hB5 hC5 hD5
  have hlA := hA6.1
  have x0 := hA6.cell 0 _ rfl
  go_wp2_with fail
  have hE7 : Box ((w6.alloc (.cells #[.int .i64 b0, .int .i64 b1] 23)).alloc (.cells #[.int .i64 b0, .int .i64 b1] 23)) w6.heap.size [.int .i64 b0, .int .i64 b1] := (Box.new _ _ _).alloc _
  have hF7 : Box ((w6.alloc (.cells #[.int .i64 b0, .int .i64 b1] 23)).alloc (.cells #[.int .i64 b0, .int .i64 b1] 23)) (w6.heap.size + 1) [.int .i64 b0, .int .i64 b1] := Box.of (alloc1_at _ _ _)
  have hA7 := (hA6.alloc (.cells #[.int .i64 b0, .int .i64 b1] 23)).alloc (.cells #[.int .i64 b0, .int .i64 b1] 23)
  have hB7 := (hB6.alloc (.cells #[.int .i64 b0, .int .i64 b1] 23)).alloc (.cells #[.int .i64 b0, .int .i64 b1] 23)
  have hC7 := (hC6.alloc (.cells #[.int .i64 b0, .int .i64 b1] 23)).alloc (.cells #[.int .i64 b0, .int .i64 b1] 23)
  have hD7 := (hD6.alloc (.cells #[.int .i64 b0, .int .i64 b1] 23)).alloc (.cells #[.int .i64 b0, .int .i64 b1] 23)
  have h7 := (h6.alloc h6.size (.cells #[.int .i64 b0, .int .i64 b1] 23)).alloc (h6.alloc h6.size (.cells #[.int .i64 b0, .int .i64 b1] 23)).size (.cells #[.int .i64 b0, .int .i64 b1] 23)
  generalize (w6.alloc (.cells #[.int .i64 b0, .int .i64 b1] 23)).alloc (.cells #[.int .i64 b0, .int .i64 b1] 23) = w7 at hE7 hF7 hA7 hB7 hC7 hD7 h7 ⊢
  generalize w6.heap.size + 1 = F at hF7 ⊢
  generalize w6.heap.size = E at hE7 ⊢
  clear hA6 hB6 hC6 hD6 h6 x0 hlA
  generalize w.heap.size = A at hA7 ⊢
  have HT := Lib.hid h7
  have hG : Below w7.heap.size w7 w7.drew := (Below.refl _ w7).drew
  have hlA := hA7.1
  have hlB := hB7.1
  have x0 := hA7.cell 0 _ rfl
  have y0 := hB7.cell 0 _ rfl
  have x1 := hA7.cell 1 _ rfl
  have y1 := hB7.cell 1 _ rfl
  have x2 := hA7.cell 2 _ rfl
  have y2 := hB7.cell 2 _ rfl
  have x3 := hA7.cell 3 _ rfl
  have y3 := hB7.cell 3 _ rfl
  have x4 := hA7.cell 4 _ rfl
  have y4 := hB7.cell 4 _ rfl
  have x5 := hA7.cell 5 _ rfl
  have y5 := hB7.cell 5 _ rfl
  have x6 := hA7.cell 6 _ rfl
  have y6 := hB7.cell 6 _ rfl
  have x7 := hA7.cell 7 _ rfl
  have y7 := hB7.cell 7 _ rfl
  have e1 : ∀ W, (binOp .neq 25 (.agg #[.int .i64 a, .int .i64 u, .int .i64 f0, .int .i64 f1, .int .i64 b0, .int .i64 b1, .int .i64 l0, .int .i64 l1]) (.agg #[.int .i64 a, .int .i64 u, .int .i64 f0, .int .i64 f1, .int .i64 b0, .int .i64 b1, .int .i64 l0, .int .i64 l1])).run Tryd.prog W = .ok (.bool false) W := fun W => by rw [neqS, eqS_self]; rfl
  have e2 : ∀ W, (binOp .eql 25 (.agg #[.int .i64 x, .int .i64 u, .int .i64 f0, .int .i64 f1, .int .i64 b0, .int .i64 b1, .int .i64 l0, .int .i64 l1]) (.agg #[.int .i64 a, .int .i64 u, .int .i64 f0, .int .i64 f1, .int .i64 b0, .int .i64 b1, .int .i64 l0, .int .i64 l1])).run Tryd.prog W = .ok (.bool false) W := fun W => by rw [eqlS, eqS_head x a Hne.out]
  have HA := Lib.hid hA7
  have HC := Lib.hid hC7
  have HD := Lib.hid hD7
  have HE := Lib.hid hE7
  have HF := Lib.hid hF7
  clear hA7 hB7 hC7 hD7 hE7 hF7 h7
  go_region_held3 (fun w' => w'.cell? ⟨A, 0, none⟩ = some (.int .i64 a) ∧ w'.cell? ⟨A, 1, none⟩ = some (.int .i64 u) ∧ w'.cell? ⟨A, 2, none⟩ = some (.int .i64 f0) ∧ w'.cell? ⟨A, 3, none⟩ = some (.int .i64 f1) ∧ w'.cell? ⟨A, 4, none⟩ = some (.int .i64 b0) ∧ w'.cell? ⟨A, 5, none⟩ = some (.int .i64 b1) ∧ w'.cell? ⟨A, 6, none⟩ = some (.int .i64 l0) ∧ w'.cell? ⟨A, 7, none⟩ = some (.int .i64 l1) ∧ w'.cell? ⟨B, 0, none⟩ = some (.int .i64 x) ∧ w'.cell? ⟨B, 1, none⟩ = some (.int .i64 u) ∧ w'.cell? ⟨B, 2, none⟩ = some (.int .i64 f0) ∧ w'.cell? ⟨B, 3, none⟩ = some (.int .i64 f1) ∧ w'.cell? ⟨B, 4, none⟩ = some (.int .i64 b0) ∧ w'.cell? ⟨B, 5, none⟩ = some (.int .i64 b1) ∧ w'.cell? ⟨B, 6, none⟩ = some (.int .i64 l0) ∧ w'.cell? ⟨B, 7, none⟩ = some (.int .i64 l1)) (first | exact ⟨by assumption, by assumption, by assumption, by assumption, by assumption, by assumption, by assumption, by assumption, by assumption, by assumption, by assumption, by assumption, by assumption, by assumption, by assumption, by assumption⟩ | go_keep) (first
    | (go_at_call 23; ((with_reducible refine (inverse_is x u f0 f1 b0 b1 l0 l1 a HY.out _).mono ?_); (rintro e wA ⟨rfl, hbA⟩; have hG := hG.trans (hbA.mono hG.size); clear hbA; have d0 := (hG.cell (p := ⟨A, 0, none⟩) hlA).trans x0; have d1 := (hG.cell (p := ⟨A, 1, none⟩) hlA).trans x1; have d2 := (hG.cell (p := ⟨A, 2, none⟩) hlA).trans x2; have d3 := (hG.cell (p := ⟨A, 3, none⟩) hlA).trans x3; have d4 := (hG.cell (p := ⟨A, 4, none⟩) hlA).trans x4; have d5 := (hG.cell (p := ⟨A, 5, none⟩) hlA).trans x5; have d6 := (hG.cell (p := ⟨A, 6, none⟩) hlA).trans x6; have d7 := (hG.cell (p := ⟨A, 7, none⟩) hlA).trans x7; have f0_ := (hG.cell (p := ⟨B, 0, none⟩) hlB).trans y0; have f1_ := (hG.cell (p := ⟨B, 1, none⟩) hlB).trans y1; have f2_ := (hG.cell (p := ⟨B, 2, none⟩) hlB).trans y2; have f3_ := (hG.cell (p := ⟨B, 3, none⟩) hlB).trans y3; have f4_ := (hG.cell (p := ⟨B, 4, none⟩) hlB).trans y4; have f5_ := (hG.cell (p := ⟨B, 5, none⟩) hlB).trans y5; have f6_ := (hG.cell (p := ⟨B, 6, none⟩) hlB).trans y6; have f7_ := (hG.cell (p := ⟨B, 7, none⟩) hlB).trans y7; skip))))
  all_goals
    have hA := HA.out.keep hG
    have hC := HC.out.keep hG
    have hD := HD.out.keep hG
    have hE := HE.out.keep hG
    have hF := HF.out.keep hG
    have hX := Lib.hid (HT.out.trans (hG.mono HT.out.size))
    clear hG HA HC HD HE HF e1 e2
    clear hlA hlB x0 y0 x1 y1 x2 y2 x3 y3 x4 y4 x5 y5 x6 y6 x7 y7
    (try clear d0 f0_ d1 f1_ d2 f2_ d3 f3_ d4 f4_ d5 f5_ d6 f6_ d7 f7_)
    have lA := hA.1
    have lC := hC.1
    have lD := hD.1
    have lE := hE.1
    have lF := hF.1
    have a2 := hA.cell 2 _ rfl
    have a3 := hA.cell 3 _ rfl
    have a4 := hA.cell 4 _ rfl
    have a5 := hA.cell 5 _ rfl
    have c0 := hC.cell 0 _ rfl
    have c1 := hC.cell 1 _ rfl
    have d0 := hD.cell 0 _ rfl
    have d1 := hD.cell 1 _ rfl
    have k0 := hE.cell 0 _ rfl
    have k1 := hE.cell 1 _ rfl
    have g0 := hF.cell 0 _ rfl
    have g1 := hF.cell 1 _ rfl
    clear hA hC hD hE hF
    by_cases hq : f0 = b0 ∧ f1 = b1
    · obtain ⟨rfl, rfl⟩ := hq
      go_wp2
      go_ret
      exact ⟨rfl, hX.out⟩
    · have hz : (f0 == b0 && f1 == b1) = false := by
        rw [Bool.eq_false_iff]
        intro e
        simp at e
        exact hq e
      have e3 := fun W => (eqlC f0 f1 b0 b1 W)
      rw [hz] at e3
      clear hq hz
      go_wp2
      go_ret
      exact ⟨rfl, hX.out⟩
theorem turns_any (a u f0 f1 b0 b1 l0 l1 : Int) (ha : (Lit.int .i64 a).wf = true) (w : World) (h : Tl w) : Calls Tryd.prog 8 #[.agg #[.int .i64 a, .int .i64 u, .int .i64 f0, .int .i64 f1, .int .i64 b0, .int .i64 b1, .int .i64 l0, .int .i64 l1]] w fun e w' => e = .returned (.bool true) ∧ Below w.heap.size w w' := by
  have k1 := flip_and a
  have k2 := keep_and a
  have hy := xor_back a ha
  have hn := xor_ne a
  obtain ⟨y, h1⟩ : ∃ y, (bits .and .i64 a 16 != 0) = y := ⟨_, rfl⟩
  obtain ⟨z, h2⟩ : ∃ z, (bits .and .i64 a 32 != 0) = z := ⟨_, rfl⟩
  rw [h1] at k1
  rw [h2] at k2
  cases y <;> cases z
  · exact turns_00 a u f0 f1 b0 b1 l0 l1 _ rfl hy hn h1 h2 k1 k2 w h
  · exact turns_01 a u f0 f1 b0 b1 l0 l1 _ rfl hy hn h1 h2 k1 k2 w h
  · exact turns_10 a u f0 f1 b0 b1 l0 l1 _ rfl hy hn h1 h2 k1 k2 w h
  · exact turns_11 a u f0 f1 b0 b1 l0 l1 _ rfl hy hn h1 h2 k1 k2 w h
end Go.Proofs.YtokjjeekkfefmaaDoor.Sty
