/-
  The walk of the law ColorTells: it returns true, whatever its argument; nothing that lay before the call has turned.
-/
import Derived.Test.YtddgigiajenmkaaDoorColI
namespace Go.Proofs.YtddgigiajenmkaaDoor.Col
open Go.RowKit Utf

theorem rgb_t (k n : Int) (w : World) (h : Tc w) : Calls Tryd.prog 10 #[.agg #[.int .i64 k, .int .i64 n]] w fun e w' => e = .returned (.tuple #[.int .i64 ((rgbC k n).getD 0), .bool (rgbC k n).isSome]) ∧ Below w.heap.size w w' := rgb_any k n w h
theorem rrgb_t (k n : Int) (w : World) : Calls Tryd.prog 11 #[.agg #[.int .i64 k, .int .i64 n]] w fun e w' => e = .returned (.tuple #[.int .i64 ((rgbC k n).getD 0), .bool (rgbC k n).isSome]) ∧ Below w.heap.size w w' := rrgb_any k n w
theorem text_t (k n : Int) (w : World) (h : Tc w) : Calls Tryd.prog 12 #[.agg #[.int .i64 k, .int .i64 n]] w fun e w' => e = .returned (.tuple #[.string (txtC k n), .int .i64 (txtE k n)]) ∧ Below w.heap.size w w' := text_any k n w h
theorem rtext_t (k n : Int) (w : World) : Calls Tryd.prog 13 #[.agg #[.int .i64 k, .int .i64 n]] w fun e w' => e = .returned (.tuple #[.string (txtC k n), .int .i64 (txtE k n)]) ∧ Below w.heap.size w w' := rtext_any k n w
theorem check_t (k n : Int) (w : World) (h : Tc w) : Calls Tryd.prog 14 #[.agg #[.int .i64 k, .int .i64 n]] w fun e w' => e = .returned (.int .i64 (errC k n)) ∧ Below w.heap.size w w' := check_any k n w h
theorem rcheck_t (k n : Int) (w : World) : Calls Tryd.prog 15 #[.agg #[.int .i64 k, .int .i64 n]] w fun e w' => e = .returned (.int .i64 (errC k n)) ∧ Below w.heap.size w w' := rcheck_any k n w
/-- a box with a color of known cells -/
def Bc (w : World) (B : Nat) (a b : Int) : Prop := B < w.heap.size ∧ w.cell? ⟨B, 0, none⟩ = some (.int .i64 a) ∧ w.cell? ⟨B, 1, none⟩ = some (.int .i64 b)
theorem Bc.keep {w w' : World} {B : Nat} {a b : Int} (h : Bc w B a b) (hb : Below w.heap.size w w') : Bc w' B a b :=
  ⟨Nat.lt_of_lt_of_le h.1 hb.size, (hb.cell (p := ⟨B, 0, none⟩) h.1).trans h.2.1, (hb.cell (p := ⟨B, 1, none⟩) h.1).trans h.2.2⟩
theorem bc_new (w : World) (a b : Int) (t : TypeId) : Bc (w.alloc (.cells #[.int .i64 a, .int .i64 b] t)) w.heap.size a b := by
  have hbx : (w.alloc (.cells #[.int .i64 a, .int .i64 b] t)).heap[w.heap.size]? = some (.cells #[.int .i64 a, .int .i64 b] t (0, 0)) := heap_alloc_new w _
  exact ⟨by simp, (Joins.cell_of_block hbx 0).trans rfl, (Joins.cell_of_block hbx 1).trans rfl⟩
set_option maxRecDepth 100000 in
set_option maxHeartbeats 8000000 in
theorem tells_any (ck cn : Int) (w : World) (h : Tc w) : Calls Tryd.prog 3 #[.agg #[.int .i64 ck, .int .i64 cn]] w fun e w' => e = .returned (.bool true) ∧ Below w.heap.size w w' := by
  have H := Lib.hid h; clear h
  go_enter Tryd.func3, Tryd.ntmps3
  go_wp2_with fail
  generalize wrap64 (wrap64 ((IntKind.u64.wrap cn).tmod 260) - 2) = v2
  generalize wrap64 ((IntKind.u64.wrap cn).tmod 16777216) = v4
  have hb0 := Lib.hid (below_box w (.cells #[.int .i64 ck, .int .i64 cn] 23))
  go_loopw [36] (fun i wr => ∃ k : Nat, k ≤ 5 ∧ i = .int .i64 k ∧ Hid (Below w.heap.size w wr)) (fun i _ => 5 - (intOf i).toNat)
  case atStart => exact ⟨0, by omega, rfl, hb0⟩
  case round =>
    clear hb0
    obtain ⟨k, hk, rfl, hid⟩ := hrel
    have h0 := hid.out
    clear hid
    rcases (show k = 0 ∨ k = 1 ∨ k = 2 ∨ k = 3 ∨ k = 4 ∨ k = 5 by omega) with rfl | rfl | rfl | rfl | rfl | rfl
    · rw [show (((0 : Nat)) : Int) = 0 from rfl]
      have x0 : ∀ W, (Instr.index 25 (.agg #[.int .i64 ck, .int .i64 cn, .int .i64 0, .int .i64 cn, .int .i64 1, .int .i64 v2, .int .i64 2, .int .i64 cn, .int .i64 2, .int .i64 v4]) (.int .i64 0)).run Tryd.prog W = .ok (.agg #[.int .i64 ck, .int .i64 cn]) W := fun _ => by kernel_rfl
      go_wp2_with fail
      have h1 := h0.alloc h0.size (.cells #[.int .i64 ck, .int .i64 cn] 23)
      have q1 := bc_new wr ck cn 23
      generalize wr.alloc (.cells #[.int .i64 ck, .int .i64 cn] 23) = w1 at h1 q1 ⊢
      generalize wr.heap.size = B at q1 ⊢
      clear h0 x0
      skip
      refine (rgb_t ck cn _ ((H.out).keep h1)).mono ?_
      rintro e w2 ⟨rfl, hb2⟩
      have h2 := h1.trans (hb2.mono h1.size)
      have q2 := q1.keep hb2
      have c2 := q2.2.1
      have d2 := q2.2.2
      clear hb2 h1 q1
      go_wp2_with fail
      refine (rrgb_t ck cn _).mono ?_
      rintro e w3 ⟨rfl, hb3⟩
      have h3 := h2.trans (hb3.mono h2.size)
      have q3 := q2.keep hb3
      have c3 := q3.2.1
      have d3 := q3.2.2
      clear hb3 h2 q2 c2 d2
      go_wp2_with fail
      refine (text_t ck cn _ ((H.out).keep h3)).mono ?_
      rintro e w4 ⟨rfl, hb4⟩
      have h4 := h3.trans (hb4.mono h3.size)
      have q4 := q3.keep hb4
      have c4 := q4.2.1
      have d4 := q4.2.2
      clear hb4 h3 q3 c3 d3
      go_wp2_with fail
      refine (rtext_t ck cn _).mono ?_
      rintro e w5 ⟨rfl, hb5⟩
      have h5 := h4.trans (hb5.mono h4.size)
      have q5 := q4.keep hb5
      have c5 := q5.2.1
      have d5 := q5.2.2
      clear hb5 h4 q4 c4 d4
      generalize (rgbC ck cn).getD 0 = u1
      generalize (rgbC ck cn).isSome = u2
      generalize txtC ck cn = u3
      generalize txtE ck cn = u4
      go_wp2_with fail
      have hlt := q5.1
      have hG : Below w5.heap.size w5 w5.drew := (Below.refl _ w5).drew
      have HT := Lib.hid ((H.out).keep h5)
      go_region_held3 (fun w' => w'.cell? ⟨B, 0, none⟩ = some (.int .i64 ck) ∧ w'.cell? ⟨B, 1, none⟩ = some (.int .i64 cn)) (exact ⟨by assumption, by assumption⟩) (first
        | (go_at_call 14; ((with_reducible refine (check_t ck cn _ ((HT.out).keep hG)).mono ?_); (rintro e wA ⟨rfl, hbA⟩; have hG := hG.trans (hbA.mono hG.size); have d0 := (hG.cell (p := ⟨B, 0, none⟩) hlt).trans c5; have d1 := (hG.cell (p := ⟨B, 1, none⟩) hlt).trans d5)))
        | (go_at_call 15; ((with_reducible refine (rcheck_t ck cn _).mono ?_); (rintro e wA ⟨rfl, hbA⟩; have hG := hG.trans (hbA.mono hG.size); have d0 := (hG.cell (p := ⟨B, 0, none⟩) hlt).trans c5; have d1 := (hG.cell (p := ⟨B, 1, none⟩) hlt).trans d5))))
      all_goals
        go_wp2
        go_roundw
        case rel => exact ⟨1, by omega, rfl, h5.trans (hG.mono h5.size)⟩
        case measure => simp [intOf]
    · rw [show (((1 : Nat)) : Int) = 1 from rfl]
      have x0 : ∀ W, (Instr.index 25 (.agg #[.int .i64 ck, .int .i64 cn, .int .i64 0, .int .i64 cn, .int .i64 1, .int .i64 v2, .int .i64 2, .int .i64 cn, .int .i64 2, .int .i64 v4]) (.int .i64 1)).run Tryd.prog W = .ok (.agg #[.int .i64 0, .int .i64 cn]) W := fun _ => by kernel_rfl
      go_wp2_with fail
      have h1 := h0.alloc h0.size (.cells #[.int .i64 0, .int .i64 cn] 23)
      have q1 := bc_new wr 0 cn 23
      generalize wr.alloc (.cells #[.int .i64 0, .int .i64 cn] 23) = w1 at h1 q1 ⊢
      generalize wr.heap.size = B at q1 ⊢
      clear h0 x0
      skip
      refine (rgb_t 0 cn _ ((H.out).keep h1)).mono ?_
      rintro e w2 ⟨rfl, hb2⟩
      have h2 := h1.trans (hb2.mono h1.size)
      have q2 := q1.keep hb2
      have c2 := q2.2.1
      have d2 := q2.2.2
      clear hb2 h1 q1
      go_wp2_with fail
      refine (rrgb_t 0 cn _).mono ?_
      rintro e w3 ⟨rfl, hb3⟩
      have h3 := h2.trans (hb3.mono h2.size)
      have q3 := q2.keep hb3
      have c3 := q3.2.1
      have d3 := q3.2.2
      clear hb3 h2 q2 c2 d2
      go_wp2_with fail
      refine (text_t 0 cn _ ((H.out).keep h3)).mono ?_
      rintro e w4 ⟨rfl, hb4⟩
      have h4 := h3.trans (hb4.mono h3.size)
      have q4 := q3.keep hb4
      have c4 := q4.2.1
      have d4 := q4.2.2
      clear hb4 h3 q3 c3 d3
      go_wp2_with fail
      refine (rtext_t 0 cn _).mono ?_
      rintro e w5 ⟨rfl, hb5⟩
      have h5 := h4.trans (hb5.mono h4.size)
      have q5 := q4.keep hb5
      have c5 := q5.2.1
      have d5 := q5.2.2
      clear hb5 h4 q4 c4 d4
      generalize (rgbC 0 cn).getD 0 = u1
      generalize (rgbC 0 cn).isSome = u2
      generalize txtC 0 cn = u3
      generalize txtE 0 cn = u4
      go_wp2_with fail
      have hlt := q5.1
      have hG : Below w5.heap.size w5 w5.drew := (Below.refl _ w5).drew
      have HT := Lib.hid ((H.out).keep h5)
      go_region_held3 (fun w' => w'.cell? ⟨B, 0, none⟩ = some (.int .i64 0) ∧ w'.cell? ⟨B, 1, none⟩ = some (.int .i64 cn)) (exact ⟨by assumption, by assumption⟩) (first
        | (go_at_call 14; ((with_reducible refine (check_t 0 cn _ ((HT.out).keep hG)).mono ?_); (rintro e wA ⟨rfl, hbA⟩; have hG := hG.trans (hbA.mono hG.size); have d0 := (hG.cell (p := ⟨B, 0, none⟩) hlt).trans c5; have d1 := (hG.cell (p := ⟨B, 1, none⟩) hlt).trans d5)))
        | (go_at_call 15; ((with_reducible refine (rcheck_t 0 cn _).mono ?_); (rintro e wA ⟨rfl, hbA⟩; have hG := hG.trans (hbA.mono hG.size); have d0 := (hG.cell (p := ⟨B, 0, none⟩) hlt).trans c5; have d1 := (hG.cell (p := ⟨B, 1, none⟩) hlt).trans d5))))
      all_goals
        go_wp2
        go_roundw
        case rel => exact ⟨2, by omega, rfl, h5.trans (hG.mono h5.size)⟩
        case measure => simp [intOf]
    · rw [show (((2 : Nat)) : Int) = 2 from rfl]
      have x0 : ∀ W, (Instr.index 25 (.agg #[.int .i64 ck, .int .i64 cn, .int .i64 0, .int .i64 cn, .int .i64 1, .int .i64 v2, .int .i64 2, .int .i64 cn, .int .i64 2, .int .i64 v4]) (.int .i64 2)).run Tryd.prog W = .ok (.agg #[.int .i64 1, .int .i64 v2]) W := fun _ => by kernel_rfl
      go_wp2_with fail
      have h1 := h0.alloc h0.size (.cells #[.int .i64 1, .int .i64 v2] 23)
      have q1 := bc_new wr 1 v2 23
      generalize wr.alloc (.cells #[.int .i64 1, .int .i64 v2] 23) = w1 at h1 q1 ⊢
      generalize wr.heap.size = B at q1 ⊢
      clear h0 x0
      skip
      refine (rgb_t 1 v2 _ ((H.out).keep h1)).mono ?_
      rintro e w2 ⟨rfl, hb2⟩
      have h2 := h1.trans (hb2.mono h1.size)
      have q2 := q1.keep hb2
      have c2 := q2.2.1
      have d2 := q2.2.2
      clear hb2 h1 q1
      go_wp2_with fail
      refine (rrgb_t 1 v2 _).mono ?_
      rintro e w3 ⟨rfl, hb3⟩
      have h3 := h2.trans (hb3.mono h2.size)
      have q3 := q2.keep hb3
      have c3 := q3.2.1
      have d3 := q3.2.2
      clear hb3 h2 q2 c2 d2
      go_wp2_with fail
      refine (text_t 1 v2 _ ((H.out).keep h3)).mono ?_
      rintro e w4 ⟨rfl, hb4⟩
      have h4 := h3.trans (hb4.mono h3.size)
      have q4 := q3.keep hb4
      have c4 := q4.2.1
      have d4 := q4.2.2
      clear hb4 h3 q3 c3 d3
      go_wp2_with fail
      refine (rtext_t 1 v2 _).mono ?_
      rintro e w5 ⟨rfl, hb5⟩
      have h5 := h4.trans (hb5.mono h4.size)
      have q5 := q4.keep hb5
      have c5 := q5.2.1
      have d5 := q5.2.2
      clear hb5 h4 q4 c4 d4
      generalize (rgbC 1 v2).getD 0 = u1
      generalize (rgbC 1 v2).isSome = u2
      generalize txtC 1 v2 = u3
      generalize txtE 1 v2 = u4
      go_wp2_with fail
      have hlt := q5.1
      have hG : Below w5.heap.size w5 w5.drew := (Below.refl _ w5).drew
      have HT := Lib.hid ((H.out).keep h5)
      go_region_held3 (fun w' => w'.cell? ⟨B, 0, none⟩ = some (.int .i64 1) ∧ w'.cell? ⟨B, 1, none⟩ = some (.int .i64 v2)) (exact ⟨by assumption, by assumption⟩) (first
        | (go_at_call 14; ((with_reducible refine (check_t 1 v2 _ ((HT.out).keep hG)).mono ?_); (rintro e wA ⟨rfl, hbA⟩; have hG := hG.trans (hbA.mono hG.size); have d0 := (hG.cell (p := ⟨B, 0, none⟩) hlt).trans c5; have d1 := (hG.cell (p := ⟨B, 1, none⟩) hlt).trans d5)))
        | (go_at_call 15; ((with_reducible refine (rcheck_t 1 v2 _).mono ?_); (rintro e wA ⟨rfl, hbA⟩; have hG := hG.trans (hbA.mono hG.size); have d0 := (hG.cell (p := ⟨B, 0, none⟩) hlt).trans c5; have d1 := (hG.cell (p := ⟨B, 1, none⟩) hlt).trans d5))))
      all_goals
        go_wp2
        go_roundw
        case rel => exact ⟨3, by omega, rfl, h5.trans (hG.mono h5.size)⟩
        case measure => simp [intOf]
    · rw [show (((3 : Nat)) : Int) = 3 from rfl]
      have x0 : ∀ W, (Instr.index 25 (.agg #[.int .i64 ck, .int .i64 cn, .int .i64 0, .int .i64 cn, .int .i64 1, .int .i64 v2, .int .i64 2, .int .i64 cn, .int .i64 2, .int .i64 v4]) (.int .i64 3)).run Tryd.prog W = .ok (.agg #[.int .i64 2, .int .i64 cn]) W := fun _ => by kernel_rfl
      go_wp2_with fail
      have h1 := h0.alloc h0.size (.cells #[.int .i64 2, .int .i64 cn] 23)
      have q1 := bc_new wr 2 cn 23
      generalize wr.alloc (.cells #[.int .i64 2, .int .i64 cn] 23) = w1 at h1 q1 ⊢
      generalize wr.heap.size = B at q1 ⊢
      clear h0 x0
      skip
      refine (rgb_t 2 cn _ ((H.out).keep h1)).mono ?_
      rintro e w2 ⟨rfl, hb2⟩
      have h2 := h1.trans (hb2.mono h1.size)
      have q2 := q1.keep hb2
      have c2 := q2.2.1
      have d2 := q2.2.2
      clear hb2 h1 q1
      go_wp2_with fail
      refine (rrgb_t 2 cn _).mono ?_
      rintro e w3 ⟨rfl, hb3⟩
      have h3 := h2.trans (hb3.mono h2.size)
      have q3 := q2.keep hb3
      have c3 := q3.2.1
      have d3 := q3.2.2
      clear hb3 h2 q2 c2 d2
      go_wp2_with fail
      refine (text_t 2 cn _ ((H.out).keep h3)).mono ?_
      rintro e w4 ⟨rfl, hb4⟩
      have h4 := h3.trans (hb4.mono h3.size)
      have q4 := q3.keep hb4
      have c4 := q4.2.1
      have d4 := q4.2.2
      clear hb4 h3 q3 c3 d3
      go_wp2_with fail
      refine (rtext_t 2 cn _).mono ?_
      rintro e w5 ⟨rfl, hb5⟩
      have h5 := h4.trans (hb5.mono h4.size)
      have q5 := q4.keep hb5
      have c5 := q5.2.1
      have d5 := q5.2.2
      clear hb5 h4 q4 c4 d4
      generalize (rgbC 2 cn).getD 0 = u1
      generalize (rgbC 2 cn).isSome = u2
      generalize txtC 2 cn = u3
      generalize txtE 2 cn = u4
      go_wp2_with fail
      have hlt := q5.1
      have hG : Below w5.heap.size w5 w5.drew := (Below.refl _ w5).drew
      have HT := Lib.hid ((H.out).keep h5)
      go_region_held3 (fun w' => w'.cell? ⟨B, 0, none⟩ = some (.int .i64 2) ∧ w'.cell? ⟨B, 1, none⟩ = some (.int .i64 cn)) (exact ⟨by assumption, by assumption⟩) (first
        | (go_at_call 14; ((with_reducible refine (check_t 2 cn _ ((HT.out).keep hG)).mono ?_); (rintro e wA ⟨rfl, hbA⟩; have hG := hG.trans (hbA.mono hG.size); have d0 := (hG.cell (p := ⟨B, 0, none⟩) hlt).trans c5; have d1 := (hG.cell (p := ⟨B, 1, none⟩) hlt).trans d5)))
        | (go_at_call 15; ((with_reducible refine (rcheck_t 2 cn _).mono ?_); (rintro e wA ⟨rfl, hbA⟩; have hG := hG.trans (hbA.mono hG.size); have d0 := (hG.cell (p := ⟨B, 0, none⟩) hlt).trans c5; have d1 := (hG.cell (p := ⟨B, 1, none⟩) hlt).trans d5))))
      all_goals
        go_wp2
        go_roundw
        case rel => exact ⟨4, by omega, rfl, h5.trans (hG.mono h5.size)⟩
        case measure => simp [intOf]
    · rw [show (((4 : Nat)) : Int) = 4 from rfl]
      have x0 : ∀ W, (Instr.index 25 (.agg #[.int .i64 ck, .int .i64 cn, .int .i64 0, .int .i64 cn, .int .i64 1, .int .i64 v2, .int .i64 2, .int .i64 cn, .int .i64 2, .int .i64 v4]) (.int .i64 4)).run Tryd.prog W = .ok (.agg #[.int .i64 2, .int .i64 v4]) W := fun _ => by kernel_rfl
      go_wp2_with fail
      have h1 := h0.alloc h0.size (.cells #[.int .i64 2, .int .i64 v4] 23)
      have q1 := bc_new wr 2 v4 23
      generalize wr.alloc (.cells #[.int .i64 2, .int .i64 v4] 23) = w1 at h1 q1 ⊢
      generalize wr.heap.size = B at q1 ⊢
      clear h0 x0
      skip
      refine (rgb_t 2 v4 _ ((H.out).keep h1)).mono ?_
      rintro e w2 ⟨rfl, hb2⟩
      have h2 := h1.trans (hb2.mono h1.size)
      have q2 := q1.keep hb2
      have c2 := q2.2.1
      have d2 := q2.2.2
      clear hb2 h1 q1
      go_wp2_with fail
      refine (rrgb_t 2 v4 _).mono ?_
      rintro e w3 ⟨rfl, hb3⟩
      have h3 := h2.trans (hb3.mono h2.size)
      have q3 := q2.keep hb3
      have c3 := q3.2.1
      have d3 := q3.2.2
      clear hb3 h2 q2 c2 d2
      go_wp2_with fail
      refine (text_t 2 v4 _ ((H.out).keep h3)).mono ?_
      rintro e w4 ⟨rfl, hb4⟩
      have h4 := h3.trans (hb4.mono h3.size)
      have q4 := q3.keep hb4
      have c4 := q4.2.1
      have d4 := q4.2.2
      clear hb4 h3 q3 c3 d3
      go_wp2_with fail
      refine (rtext_t 2 v4 _).mono ?_
      rintro e w5 ⟨rfl, hb5⟩
      have h5 := h4.trans (hb5.mono h4.size)
      have q5 := q4.keep hb5
      have c5 := q5.2.1
      have d5 := q5.2.2
      clear hb5 h4 q4 c4 d4
      generalize (rgbC 2 v4).getD 0 = u1
      generalize (rgbC 2 v4).isSome = u2
      generalize txtC 2 v4 = u3
      generalize txtE 2 v4 = u4
      go_wp2_with fail
      have hlt := q5.1
      have hG : Below w5.heap.size w5 w5.drew := (Below.refl _ w5).drew
      have HT := Lib.hid ((H.out).keep h5)
      go_region_held3 (fun w' => w'.cell? ⟨B, 0, none⟩ = some (.int .i64 2) ∧ w'.cell? ⟨B, 1, none⟩ = some (.int .i64 v4)) (exact ⟨by assumption, by assumption⟩) (first
        | (go_at_call 14; ((with_reducible refine (check_t 2 v4 _ ((HT.out).keep hG)).mono ?_); (rintro e wA ⟨rfl, hbA⟩; have hG := hG.trans (hbA.mono hG.size); have d0 := (hG.cell (p := ⟨B, 0, none⟩) hlt).trans c5; have d1 := (hG.cell (p := ⟨B, 1, none⟩) hlt).trans d5)))
        | (go_at_call 15; ((with_reducible refine (rcheck_t 2 v4 _).mono ?_); (rintro e wA ⟨rfl, hbA⟩; have hG := hG.trans (hbA.mono hG.size); have d0 := (hG.cell (p := ⟨B, 0, none⟩) hlt).trans c5; have d1 := (hG.cell (p := ⟨B, 1, none⟩) hlt).trans d5))))
      all_goals
        go_wp2
        go_roundw
        case rel => exact ⟨5, by omega, rfl, h5.trans (hG.mono h5.size)⟩
        case measure => simp [intOf]
    · rw [show (((5 : Nat)) : Int) = 5 from rfl]
      go_wp2_with fail
      refine (works_any _ ((H.out).keep h0)).mono ?_
      rintro e w1 ⟨rfl, hb1⟩
      have h1 := h0.trans (hb1.mono h0.size)
      clear hb1 h0
      go_wp2
      go_ret
      exact ⟨rfl, h1⟩
end Go.Proofs.YtddgigiajenmkaaDoor.Col
