/-
  The walk of the law StyleKnown: it returns true; nothing that lay before the call has turned.
-/
import Derived.Test.YtokjjeekkfefmaaDoorStyJ
namespace Go.Proofs.YtokjjeekkfefmaaDoor.Sty
open Go.RowKit Utf Col

theorem check_is (s : S8) (r : Int) (hr : errS s = r) (w : World) (h : Tl w) : Calls Tryd.prog 12 #[.agg #[.int .i64 s.a, .int .i64 s.u, .int .i64 s.f0, .int .i64 s.f1, .int .i64 s.b0, .int .i64 s.b1, .int .i64 s.l0, .int .i64 s.l1]] w fun e w' => e = .returned (.int .i64 r) ∧ Below w.heap.size w w' := by
  subst hr; exact check_s s w h
theorem apply_is (s : S8) (p : P6) (t : S8) (r : Int) (hv : runV s [p] = t) (he : runE s [p] = r) (w : World) (h : Tl w) : Calls Tryd.prog 19 #[.agg #[.int .i64 s.a, .int .i64 s.u, .int .i64 s.f0, .int .i64 s.f1, .int .i64 s.b0, .int .i64 s.b1, .int .i64 s.l0, .int .i64 s.l1], .agg #[.int .i64 p.k, .int .i64 p.n, .int .i64 p.m, .int .i64 p.c0, .int .i64 p.c1, .string p.t]] w fun e w' =>
    e = .returned (.tuple #[.agg #[.int .i64 t.a, .int .i64 t.u, .int .i64 t.f0, .int .i64 t.f1, .int .i64 t.b0, .int .i64 t.b1, .int .i64 t.l0, .int .i64 t.l1], .int .i64 r]) ∧ Below w.heap.size w w' := by
  subst hv he; exact apply_any s p w h
theorem run_is (s : S8) (A : Option Addr) (ps : List P6) (n c : Nat) (hn : ps.length = n) (t : S8) (r : Int) (hv : runV s ps = t) (he : runE s ps = r) (w : World) (h : Tl w) (hr : RdP w A ps) (hm : n ≤ 1000000) : Calls Tryd.prog 17 #[.agg #[.int .i64 s.a, .int .i64 s.u, .int .i64 s.f0, .int .i64 s.f1, .int .i64 s.b0, .int .i64 s.b1, .int .i64 s.l0, .int .i64 s.l1], .slice A n c] w fun e w' =>
    e = .returned (.tuple #[.agg #[.int .i64 t.a, .int .i64 t.u, .int .i64 t.f0, .int .i64 t.f1, .int .i64 t.b0, .int .i64 t.b1, .int .i64 t.l0, .int .i64 t.l1], .int .i64 r]) ∧ Below w.heap.size w w' := by
  subst hv he; exact run_t s A ps n c hn w h hr hm
set_option maxRecDepth 100000 in
set_option maxHeartbeats 8000000 in
theorem known_any (w : World) (h : Tl w) : Calls Tryd.prog 9 #[] w fun e w' => e = .returned (.bool true) ∧ Below w.heap.size w w' := by
  have H := Lib.hid h; clear h
  go_enter Tryd.func9, Tryd.ntmps9
  go_wp2_with fail
  have hB0 : Box (w.alloc (.cells #[.int .i64 9, .int .i64 0] 23)) w.heap.size [.int .i64 9, .int .i64 0] := Box.new _ _ _
  have hW0 := below_box w (.cells #[.int .i64 9, .int .i64 0] 23)
  generalize w.alloc (.cells #[.int .i64 9, .int .i64 0] 23) = w0 at hB0 hW0 ⊢
  generalize hBB : w.heap.size = B at hB0 ⊢
  clear hBB
  have lB := hB0.1
  have xB0 := hB0.cell 0 _ rfl
  have xB1 := hB0.cell 1 _ rfl
  refine (check_is ⟨255, 5, 0, 0, 0, 0, 0, 0⟩ 0 (by decide +kernel) _ ((H.out).keep hW0)).mono ?_
  rintro e w1 ⟨rfl, hb1⟩
  have hW1 := hW0.trans (hb1.mono hW0.size)
  clear lB xB0 xB1
  have hB1 := hB0.keep hb1
  clear hb1 hW0 hB0
  have lB := hB1.1
  have xB0 := hB1.cell 0 _ rfl
  have xB1 := hB1.cell 1 _ rfl
  go_wp2_with fail
  refine (check_is ⟨256, 0, 0, 0, 0, 0, 0, 0⟩ 140 (by decide +kernel) _ ((H.out).keep hW1)).mono ?_
  rintro e w2 ⟨rfl, hb2⟩
  have hW2 := hW1.trans (hb2.mono hW1.size)
  clear lB xB0 xB1
  have hB2 := hB1.keep hb2
  clear hb2 hW1 hB1
  have lB := hB2.1
  have xB0 := hB2.cell 0 _ rfl
  have xB1 := hB2.cell 1 _ rfl
  go_wp2_with fail
  refine (check_is ⟨(-1), 0, 0, 0, 0, 0, 0, 0⟩ 140 (by decide +kernel) _ ((H.out).keep hW2)).mono ?_
  rintro e w3 ⟨rfl, hb3⟩
  have hW3 := hW2.trans (hb3.mono hW2.size)
  clear lB xB0 xB1
  have hB3 := hB2.keep hb3
  clear hb3 hW2 hB2
  have lB := hB3.1
  have xB0 := hB3.cell 0 _ rfl
  have xB1 := hB3.cell 1 _ rfl
  go_wp2_with fail
  refine (check_is ⟨0, 6, 0, 0, 0, 0, 0, 0⟩ 140 (by decide +kernel) _ ((H.out).keep hW3)).mono ?_
  rintro e w4 ⟨rfl, hb4⟩
  have hW4 := hW3.trans (hb4.mono hW3.size)
  clear lB xB0 xB1
  have hB4 := hB3.keep hb4
  clear hb4 hW3 hB3
  have lB := hB4.1
  have xB0 := hB4.cell 0 _ rfl
  have xB1 := hB4.cell 1 _ rfl
  go_wp2_with fail
  refine (check_is ⟨0, (-1), 9, 0, 0, 0, 0, 0⟩ 140 (by decide +kernel) _ ((H.out).keep hW4)).mono ?_
  rintro e w5 ⟨rfl, hb5⟩
  have hW5 := hW4.trans (hb5.mono hW4.size)
  clear lB xB0 xB1
  have hB5 := hB4.keep hb5
  clear hb5 hW4 hB4
  have lB := hB5.1
  have xB0 := hB5.cell 0 _ rfl
  have xB1 := hB5.cell 1 _ rfl
  go_wp2_with fail
  refine (check_is ⟨0, 0, 9, 0, 0, 0, 0, 0⟩ 130 (by decide +kernel) _ ((H.out).keep hW5)).mono ?_
  rintro e w6 ⟨rfl, hb6⟩
  have hW6 := hW5.trans (hb6.mono hW5.size)
  clear lB xB0 xB1
  have hB6 := hB5.keep hb6
  clear hb6 hW5 hB5
  have lB := hB6.1
  have xB0 := hB6.cell 0 _ rfl
  have xB1 := hB6.cell 1 _ rfl
  go_wp2_with fail
  refine (check_is ⟨0, 0, 0, 0, 9, 0, 0, 0⟩ 130 (by decide +kernel) _ ((H.out).keep hW6)).mono ?_
  rintro e w7 ⟨rfl, hb7⟩
  have hW7 := hW6.trans (hb7.mono hW6.size)
  clear lB xB0 xB1
  have hB7 := hB6.keep hb7
  clear hb7 hW6 hB6
  have lB := hB7.1
  have xB0 := hB7.cell 0 _ rfl
  have xB1 := hB7.cell 1 _ rfl
  go_wp2_with fail
  refine (check_is ⟨0, 0, 0, 0, 0, 0, 9, 0⟩ 130 (by decide +kernel) _ ((H.out).keep hW7)).mono ?_
  rintro e w8 ⟨rfl, hb8⟩
  have hW8 := hW7.trans (hb8.mono hW7.size)
  clear lB xB0 xB1
  have hB8 := hB7.keep hb8
  clear hb8 hW7 hB7
  have lB := hB8.1
  have xB0 := hB8.cell 0 _ rfl
  have xB1 := hB8.cell 1 _ rfl
  go_wp2_with fail
  clear lB xB0 xB1
  clear hB8
  refine (lfore_any _ _ _).mono ?_
  rintro e w9 ⟨rfl, hb9⟩
  have hW9 := hW8.trans (hb9.mono hW8.size)
  clear hb9 hW8 
  go_wp2_with fail
  go_region
  · go_wp2_with fail
    have hN10 : Box ((((w9.alloc (.cells #[.int .i64 39, .int .i64 4, .int .i64 0, .int .i64 0, .int .i64 0, .string ⟨#[]⟩] 27)).alloc (.cells #[.int .i64 39, .int .i64 4, .int .i64 1, .int .i64 0, .int .i64 0, .string ⟨#[]⟩] 27)).alloc (.cells #[.int .i64 39, .int .i64 6, .int .i64 0, .int .i64 0, .int .i64 0, .string ⟨#[]⟩] 27)).drew) w9.heap.size [.int .i64 39, .int .i64 4, .int .i64 0, .int .i64 0, .int .i64 0, .string ⟨#[]⟩] := (((Box.new _ _ _).alloc _).alloc _).drew
    have hO10 : Box ((((w9.alloc (.cells #[.int .i64 39, .int .i64 4, .int .i64 0, .int .i64 0, .int .i64 0, .string ⟨#[]⟩] 27)).alloc (.cells #[.int .i64 39, .int .i64 4, .int .i64 1, .int .i64 0, .int .i64 0, .string ⟨#[]⟩] 27)).alloc (.cells #[.int .i64 39, .int .i64 6, .int .i64 0, .int .i64 0, .int .i64 0, .string ⟨#[]⟩] 27)).drew) (w9.heap.size + 1) [.int .i64 39, .int .i64 4, .int .i64 1, .int .i64 0, .int .i64 0, .string ⟨#[]⟩] := ((Box.of (alloc1_at _ _ _)).alloc _).drew
    have hL10 : Box ((((w9.alloc (.cells #[.int .i64 39, .int .i64 4, .int .i64 0, .int .i64 0, .int .i64 0, .string ⟨#[]⟩] 27)).alloc (.cells #[.int .i64 39, .int .i64 4, .int .i64 1, .int .i64 0, .int .i64 0, .string ⟨#[]⟩] 27)).alloc (.cells #[.int .i64 39, .int .i64 6, .int .i64 0, .int .i64 0, .int .i64 0, .string ⟨#[]⟩] 27)).drew) (w9.heap.size + 1 + 1) [.int .i64 39, .int .i64 6, .int .i64 0, .int .i64 0, .int .i64 0, .string ⟨#[]⟩] := (Box.of (alloc2_at _ _ _ _)).drew
    have hW10 : Below w.heap.size w ((((w9.alloc (.cells #[.int .i64 39, .int .i64 4, .int .i64 0, .int .i64 0, .int .i64 0, .string ⟨#[]⟩] 27)).alloc (.cells #[.int .i64 39, .int .i64 4, .int .i64 1, .int .i64 0, .int .i64 0, .string ⟨#[]⟩] 27)).alloc (.cells #[.int .i64 39, .int .i64 6, .int .i64 0, .int .i64 0, .int .i64 0, .string ⟨#[]⟩] 27)).drew) := (((hW9.alloc hW9.size _).alloc (hW9.alloc hW9.size _).size _).alloc ((hW9.alloc hW9.size _).alloc (hW9.alloc hW9.size _).size _).size _).drew
    generalize (((w9.alloc (.cells #[.int .i64 39, .int .i64 4, .int .i64 0, .int .i64 0, .int .i64 0, .string ⟨#[]⟩] 27)).alloc (.cells #[.int .i64 39, .int .i64 4, .int .i64 1, .int .i64 0, .int .i64 0, .string ⟨#[]⟩] 27)).alloc (.cells #[.int .i64 39, .int .i64 6, .int .i64 0, .int .i64 0, .int .i64 0, .string ⟨#[]⟩] 27)).drew = w10 at hN10 hO10 hL10 hW10 ⊢
    generalize w9.heap.size + 1 + 1 = L at hL10 ⊢
    generalize w9.heap.size + 1 = O at hO10 ⊢
    generalize w9.heap.size = N at hN10 ⊢
    clear hW9
    have lN := hN10.1
    have xN0 := hN10.cell 0 _ rfl
    have xN1 := hN10.cell 1 _ rfl
    have xN2 := hN10.cell 2 _ rfl
    have xN3 := hN10.cell 3 _ rfl
    have xN4 := hN10.cell 4 _ rfl
    have xN5 := hN10.cell 5 _ rfl
    have lO := hO10.1
    have xO0 := hO10.cell 0 _ rfl
    have xO1 := hO10.cell 1 _ rfl
    have xO2 := hO10.cell 2 _ rfl
    have xO3 := hO10.cell 3 _ rfl
    have xO4 := hO10.cell 4 _ rfl
    have xO5 := hO10.cell 5 _ rfl
    have lL := hL10.1
    have xL0 := hL10.cell 0 _ rfl
    have xL1 := hL10.cell 1 _ rfl
    have xL2 := hL10.cell 2 _ rfl
    have xL3 := hL10.cell 3 _ rfl
    have xL4 := hL10.cell 4 _ rfl
    have xL5 := hL10.cell 5 _ rfl
    refine (checkPen_is ⟨39, 4, 0, 0, 0, ⟨#[]⟩⟩ 0 (by decide +kernel) _ ((H.out).keep hW10)).mono ?_
    rintro e w11 ⟨rfl, hb11⟩
    have hW11 := hW10.trans (hb11.mono hW10.size)
    clear lN xN0 xN1 xN2 xN3 xN4 xN5
    clear lO xO0 xO1 xO2 xO3 xO4 xO5
    clear lL xL0 xL1 xL2 xL3 xL4 xL5
    have hN11 := hN10.keep hb11
    have hO11 := hO10.keep hb11
    have hL11 := hL10.keep hb11
    clear hb11 hW10 hN10 hO10 hL10
    have lN := hN11.1
    have xN0 := hN11.cell 0 _ rfl
    have xN1 := hN11.cell 1 _ rfl
    have xN2 := hN11.cell 2 _ rfl
    have xN3 := hN11.cell 3 _ rfl
    have xN4 := hN11.cell 4 _ rfl
    have xN5 := hN11.cell 5 _ rfl
    have lO := hO11.1
    have xO0 := hO11.cell 0 _ rfl
    have xO1 := hO11.cell 1 _ rfl
    have xO2 := hO11.cell 2 _ rfl
    have xO3 := hO11.cell 3 _ rfl
    have xO4 := hO11.cell 4 _ rfl
    have xO5 := hO11.cell 5 _ rfl
    have lL := hL11.1
    have xL0 := hL11.cell 0 _ rfl
    have xL1 := hL11.cell 1 _ rfl
    have xL2 := hL11.cell 2 _ rfl
    have xL3 := hL11.cell 3 _ rfl
    have xL4 := hL11.cell 4 _ rfl
    have xL5 := hL11.cell 5 _ rfl
    go_wp2_with fail
    refine (checkPen_is ⟨39, 6, 0, 0, 0, ⟨#[]⟩⟩ 0 (by decide +kernel) _ ((H.out).keep hW11)).mono ?_
    rintro e w12 ⟨rfl, hb12⟩
    have hW12 := hW11.trans (hb12.mono hW11.size)
    clear lN xN0 xN1 xN2 xN3 xN4 xN5
    clear lO xO0 xO1 xO2 xO3 xO4 xO5
    clear lL xL0 xL1 xL2 xL3 xL4 xL5
    have hN12 := hN11.keep hb12
    have hO12 := hO11.keep hb12
    have hL12 := hL11.keep hb12
    clear hb12 hW11 hN11 hO11 hL11
    have lN := hN12.1
    have xN0 := hN12.cell 0 _ rfl
    have xN1 := hN12.cell 1 _ rfl
    have xN2 := hN12.cell 2 _ rfl
    have xN3 := hN12.cell 3 _ rfl
    have xN4 := hN12.cell 4 _ rfl
    have xN5 := hN12.cell 5 _ rfl
    have lO := hO12.1
    have xO0 := hO12.cell 0 _ rfl
    have xO1 := hO12.cell 1 _ rfl
    have xO2 := hO12.cell 2 _ rfl
    have xO3 := hO12.cell 3 _ rfl
    have xO4 := hO12.cell 4 _ rfl
    have xO5 := hO12.cell 5 _ rfl
    have lL := hL12.1
    have xL0 := hL12.cell 0 _ rfl
    have xL1 := hL12.cell 1 _ rfl
    have xL2 := hL12.cell 2 _ rfl
    have xL3 := hL12.cell 3 _ rfl
    have xL4 := hL12.cell 4 _ rfl
    have xL5 := hL12.cell 5 _ rfl
    go_wp2_with fail
    refine (checkPen_is ⟨39, 4, 1, 0, 0, ⟨#[]⟩⟩ 141 (by decide +kernel) _ ((H.out).keep hW12)).mono ?_
    rintro e w13 ⟨rfl, hb13⟩
    have hW13 := hW12.trans (hb13.mono hW12.size)
    clear lN xN0 xN1 xN2 xN3 xN4 xN5
    clear lO xO0 xO1 xO2 xO3 xO4 xO5
    clear lL xL0 xL1 xL2 xL3 xL4 xL5
    have hN13 := hN12.keep hb13
    have hO13 := hO12.keep hb13
    have hL13 := hL12.keep hb13
    clear hb13 hW12 hN12 hO12 hL12
    have lN := hN13.1
    have xN0 := hN13.cell 0 _ rfl
    have xN1 := hN13.cell 1 _ rfl
    have xN2 := hN13.cell 2 _ rfl
    have xN3 := hN13.cell 3 _ rfl
    have xN4 := hN13.cell 4 _ rfl
    have xN5 := hN13.cell 5 _ rfl
    have lO := hO13.1
    have xO0 := hO13.cell 0 _ rfl
    have xO1 := hO13.cell 1 _ rfl
    have xO2 := hO13.cell 2 _ rfl
    have xO3 := hO13.cell 3 _ rfl
    have xO4 := hO13.cell 4 _ rfl
    have xO5 := hO13.cell 5 _ rfl
    have lL := hL13.1
    have xL0 := hL13.cell 0 _ rfl
    have xL1 := hL13.cell 1 _ rfl
    have xL2 := hL13.cell 2 _ rfl
    have xL3 := hL13.cell 3 _ rfl
    have xL4 := hL13.cell 4 _ rfl
    have xL5 := hL13.cell 5 _ rfl
    go_wp2_with fail
    refine (lpen_any _ _ _).mono ?_
    rintro e w14 ⟨rfl, hb14⟩
    have hW14 := hW13.trans (hb14.mono hW13.size)
    clear lN xN0 xN1 xN2 xN3 xN4 xN5
    clear lO xO0 xO1 xO2 xO3 xO4 xO5
    clear lL xL0 xL1 xL2 xL3 xL4 xL5
    have hN14 := hN13.keep hb14
    have hO14 := hO13.keep hb14
    have hL14 := hL13.keep hb14
    clear hb14 hW13 hN13 hO13 hL13
    have lN := hN14.1
    have xN0 := hN14.cell 0 _ rfl
    have xN1 := hN14.cell 1 _ rfl
    have xN2 := hN14.cell 2 _ rfl
    have xN3 := hN14.cell 3 _ rfl
    have xN4 := hN14.cell 4 _ rfl
    have xN5 := hN14.cell 5 _ rfl
    have lO := hO14.1
    have xO0 := hO14.cell 0 _ rfl
    have xO1 := hO14.cell 1 _ rfl
    have xO2 := hO14.cell 2 _ rfl
    have xO3 := hO14.cell 3 _ rfl
    have xO4 := hO14.cell 4 _ rfl
    have xO5 := hO14.cell 5 _ rfl
    have lL := hL14.1
    have xL0 := hL14.cell 0 _ rfl
    have xL1 := hL14.cell 1 _ rfl
    have xL2 := hL14.cell 2 _ rfl
    have xL3 := hL14.cell 3 _ rfl
    have xL4 := hL14.cell 4 _ rfl
    have xL5 := hL14.cell 5 _ rfl
    go_wp2_with fail
    refine (checkPen_is ⟨39, 7, 0, 0, 0, ⟨#[]⟩⟩ 141 (by decide +kernel) _ ((H.out).keep hW14)).mono ?_
    rintro e w15 ⟨rfl, hb15⟩
    have hW15 := hW14.trans (hb15.mono hW14.size)
    clear lN xN0 xN1 xN2 xN3 xN4 xN5
    clear lO xO0 xO1 xO2 xO3 xO4 xO5
    clear lL xL0 xL1 xL2 xL3 xL4 xL5
    have hN15 := hN14.keep hb15
    have hO15 := hO14.keep hb15
    have hL15 := hL14.keep hb15
    clear hb15 hW14 hN14 hO14 hL14
    have lN := hN15.1
    have xN0 := hN15.cell 0 _ rfl
    have xN1 := hN15.cell 1 _ rfl
    have xN2 := hN15.cell 2 _ rfl
    have xN3 := hN15.cell 3 _ rfl
    have xN4 := hN15.cell 4 _ rfl
    have xN5 := hN15.cell 5 _ rfl
    have lO := hO15.1
    have xO0 := hO15.cell 0 _ rfl
    have xO1 := hO15.cell 1 _ rfl
    have xO2 := hO15.cell 2 _ rfl
    have xO3 := hO15.cell 3 _ rfl
    have xO4 := hO15.cell 4 _ rfl
    have xO5 := hO15.cell 5 _ rfl
    have lL := hL15.1
    have xL0 := hL15.cell 0 _ rfl
    have xL1 := hL15.cell 1 _ rfl
    have xL2 := hL15.cell 2 _ rfl
    have xL3 := hL15.cell 3 _ rfl
    have xL4 := hL15.cell 4 _ rfl
    have xL5 := hL15.cell 5 _ rfl
    go_wp2_with fail
    refine (lpen_any _ _ _).mono ?_
    rintro e w16 ⟨rfl, hb16⟩
    have hW16 := hW15.trans (hb16.mono hW15.size)
    clear lN xN0 xN1 xN2 xN3 xN4 xN5
    clear lO xO0 xO1 xO2 xO3 xO4 xO5
    clear lL xL0 xL1 xL2 xL3 xL4 xL5
    have hN16 := hN15.keep hb16
    have hO16 := hO15.keep hb16
    have hL16 := hL15.keep hb16
    clear hb16 hW15 hN15 hO15 hL15
    have lN := hN16.1
    have xN0 := hN16.cell 0 _ rfl
    have xN1 := hN16.cell 1 _ rfl
    have xN2 := hN16.cell 2 _ rfl
    have xN3 := hN16.cell 3 _ rfl
    have xN4 := hN16.cell 4 _ rfl
    have xN5 := hN16.cell 5 _ rfl
    have lO := hO16.1
    have xO0 := hO16.cell 0 _ rfl
    have xO1 := hO16.cell 1 _ rfl
    have xO2 := hO16.cell 2 _ rfl
    have xO3 := hO16.cell 3 _ rfl
    have xO4 := hO16.cell 4 _ rfl
    have xO5 := hO16.cell 5 _ rfl
    have lL := hL16.1
    have xL0 := hL16.cell 0 _ rfl
    have xL1 := hL16.cell 1 _ rfl
    have xL2 := hL16.cell 2 _ rfl
    have xL3 := hL16.cell 3 _ rfl
    have xL4 := hL16.cell 4 _ rfl
    have xL5 := hL16.cell 5 _ rfl
    go_wp2_with fail
    refine (checkPen_is ⟨39, (-1), 0, 0, 0, ⟨#[]⟩⟩ 141 (by decide +kernel) _ ((H.out).keep hW16)).mono ?_
    rintro e w17 ⟨rfl, hb17⟩
    have hW17 := hW16.trans (hb17.mono hW16.size)
    clear lN xN0 xN1 xN2 xN3 xN4 xN5
    clear lO xO0 xO1 xO2 xO3 xO4 xO5
    clear lL xL0 xL1 xL2 xL3 xL4 xL5
    have hN17 := hN16.keep hb17
    have hO17 := hO16.keep hb17
    have hL17 := hL16.keep hb17
    clear hb17 hW16 hN16 hO16 hL16
    have lN := hN17.1
    have xN0 := hN17.cell 0 _ rfl
    have xN1 := hN17.cell 1 _ rfl
    have xN2 := hN17.cell 2 _ rfl
    have xN3 := hN17.cell 3 _ rfl
    have xN4 := hN17.cell 4 _ rfl
    have xN5 := hN17.cell 5 _ rfl
    have lO := hO17.1
    have xO0 := hO17.cell 0 _ rfl
    have xO1 := hO17.cell 1 _ rfl
    have xO2 := hO17.cell 2 _ rfl
    have xO3 := hO17.cell 3 _ rfl
    have xO4 := hO17.cell 4 _ rfl
    have xO5 := hO17.cell 5 _ rfl
    have lL := hL17.1
    have xL0 := hL17.cell 0 _ rfl
    have xL1 := hL17.cell 1 _ rfl
    have xL2 := hL17.cell 2 _ rfl
    have xL3 := hL17.cell 3 _ rfl
    have xL4 := hL17.cell 4 _ rfl
    have xL5 := hL17.cell 5 _ rfl
    go_wp2_with fail
    refine (lpen_any _ _ _).mono ?_
    rintro e w18 ⟨rfl, hb18⟩
    have hW18 := hW17.trans (hb18.mono hW17.size)
    clear lN xN0 xN1 xN2 xN3 xN4 xN5
    clear lO xO0 xO1 xO2 xO3 xO4 xO5
    clear lL xL0 xL1 xL2 xL3 xL4 xL5
    have hN18 := hN17.keep hb18
    have hO18 := hO17.keep hb18
    have hL18 := hL17.keep hb18
    clear hb18 hW17 hN17 hO17 hL17
    have lN := hN18.1
    have xN0 := hN18.cell 0 _ rfl
    have xN1 := hN18.cell 1 _ rfl
    have xN2 := hN18.cell 2 _ rfl
    have xN3 := hN18.cell 3 _ rfl
    have xN4 := hN18.cell 4 _ rfl
    have xN5 := hN18.cell 5 _ rfl
    have lO := hO18.1
    have xO0 := hO18.cell 0 _ rfl
    have xO1 := hO18.cell 1 _ rfl
    have xO2 := hO18.cell 2 _ rfl
    have xO3 := hO18.cell 3 _ rfl
    have xO4 := hO18.cell 4 _ rfl
    have xO5 := hO18.cell 5 _ rfl
    have lL := hL18.1
    have xL0 := hL18.cell 0 _ rfl
    have xL1 := hL18.cell 1 _ rfl
    have xL2 := hL18.cell 2 _ rfl
    have xL3 := hL18.cell 3 _ rfl
    have xL4 := hL18.cell 4 _ rfl
    have xL5 := hL18.cell 5 _ rfl
    go_wp2_with fail
    refine (checkPen_is ⟨39, 0, 1, 0, 0, ⟨#[]⟩⟩ 141 (by decide +kernel) _ ((H.out).keep hW18)).mono ?_
    rintro e w19 ⟨rfl, hb19⟩
    have hW19 := hW18.trans (hb19.mono hW18.size)
    clear lN xN0 xN1 xN2 xN3 xN4 xN5
    clear lO xO0 xO1 xO2 xO3 xO4 xO5
    clear lL xL0 xL1 xL2 xL3 xL4 xL5
    have hN19 := hN18.keep hb19
    have hO19 := hO18.keep hb19
    have hL19 := hL18.keep hb19
    clear hb19 hW18 hN18 hO18 hL18
    have lN := hN19.1
    have xN0 := hN19.cell 0 _ rfl
    have xN1 := hN19.cell 1 _ rfl
    have xN2 := hN19.cell 2 _ rfl
    have xN3 := hN19.cell 3 _ rfl
    have xN4 := hN19.cell 4 _ rfl
    have xN5 := hN19.cell 5 _ rfl
    have lO := hO19.1
    have xO0 := hO19.cell 0 _ rfl
    have xO1 := hO19.cell 1 _ rfl
    have xO2 := hO19.cell 2 _ rfl
    have xO3 := hO19.cell 3 _ rfl
    have xO4 := hO19.cell 4 _ rfl
    have xO5 := hO19.cell 5 _ rfl
    have lL := hL19.1
    have xL0 := hL19.cell 0 _ rfl
    have xL1 := hL19.cell 1 _ rfl
    have xL2 := hL19.cell 2 _ rfl
    have xL3 := hL19.cell 3 _ rfl
    have xL4 := hL19.cell 4 _ rfl
    have xL5 := hL19.cell 5 _ rfl
    go_wp2_with fail
    refine (lpen_any _ _ _).mono ?_
    rintro e w20 ⟨rfl, hb20⟩
    have hW20 := hW19.trans (hb20.mono hW19.size)
    clear lN xN0 xN1 xN2 xN3 xN4 xN5
    clear lO xO0 xO1 xO2 xO3 xO4 xO5
    clear lL xL0 xL1 xL2 xL3 xL4 xL5
    have hN20 := hN19.keep hb20
    have hO20 := hO19.keep hb20
    have hL20 := hL19.keep hb20
    clear hb20 hW19 hN19 hO19 hL19
    have lN := hN20.1
    have xN0 := hN20.cell 0 _ rfl
    have xN1 := hN20.cell 1 _ rfl
    have xN2 := hN20.cell 2 _ rfl
    have xN3 := hN20.cell 3 _ rfl
    have xN4 := hN20.cell 4 _ rfl
    have xN5 := hN20.cell 5 _ rfl
    have lO := hO20.1
    have xO0 := hO20.cell 0 _ rfl
    have xO1 := hO20.cell 1 _ rfl
    have xO2 := hO20.cell 2 _ rfl
    have xO3 := hO20.cell 3 _ rfl
    have xO4 := hO20.cell 4 _ rfl
    have xO5 := hO20.cell 5 _ rfl
    have lL := hL20.1
    have xL0 := hL20.cell 0 _ rfl
    have xL1 := hL20.cell 1 _ rfl
    have xL2 := hL20.cell 2 _ rfl
    have xL3 := hL20.cell 3 _ rfl
    have xL4 := hL20.cell 4 _ rfl
    have xL5 := hL20.cell 5 _ rfl
    go_wp2_with fail
    refine (checkPen_is ⟨39, 1, 0, 0, 0, ⟨#[]⟩⟩ 141 (by decide +kernel) _ ((H.out).keep hW20)).mono ?_
    rintro e w21 ⟨rfl, hb21⟩
    have hW21 := hW20.trans (hb21.mono hW20.size)
    clear lN xN0 xN1 xN2 xN3 xN4 xN5
    clear lO xO0 xO1 xO2 xO3 xO4 xO5
    clear lL xL0 xL1 xL2 xL3 xL4 xL5
    have hN21 := hN20.keep hb21
    have hO21 := hO20.keep hb21
    have hL21 := hL20.keep hb21
    clear hb21 hW20 hN20 hO20 hL20
    have lN := hN21.1
    have xN0 := hN21.cell 0 _ rfl
    have xN1 := hN21.cell 1 _ rfl
    have xN2 := hN21.cell 2 _ rfl
    have xN3 := hN21.cell 3 _ rfl
    have xN4 := hN21.cell 4 _ rfl
    have xN5 := hN21.cell 5 _ rfl
    have lO := hO21.1
    have xO0 := hO21.cell 0 _ rfl
    have xO1 := hO21.cell 1 _ rfl
    have xO2 := hO21.cell 2 _ rfl
    have xO3 := hO21.cell 3 _ rfl
    have xO4 := hO21.cell 4 _ rfl
    have xO5 := hO21.cell 5 _ rfl
    have lL := hL21.1
    have xL0 := hL21.cell 0 _ rfl
    have xL1 := hL21.cell 1 _ rfl
    have xL2 := hL21.cell 2 _ rfl
    have xL3 := hL21.cell 3 _ rfl
    have xL4 := hL21.cell 4 _ rfl
    have xL5 := hL21.cell 5 _ rfl
    go_wp2_with fail
    refine (lpen_any _ _ _).mono ?_
    rintro e w22 ⟨rfl, hb22⟩
    have hW22 := hW21.trans (hb22.mono hW21.size)
    clear lN xN0 xN1 xN2 xN3 xN4 xN5
    clear lO xO0 xO1 xO2 xO3 xO4 xO5
    clear lL xL0 xL1 xL2 xL3 xL4 xL5
    have hN22 := hN21.keep hb22
    have hO22 := hO21.keep hb22
    have hL22 := hL21.keep hb22
    clear hb22 hW21 hN21 hO21 hL21
    have lN := hN22.1
    have xN0 := hN22.cell 0 _ rfl
    have xN1 := hN22.cell 1 _ rfl
    have xN2 := hN22.cell 2 _ rfl
    have xN3 := hN22.cell 3 _ rfl
    have xN4 := hN22.cell 4 _ rfl
    have xN5 := hN22.cell 5 _ rfl
    have lO := hO22.1
    have xO0 := hO22.cell 0 _ rfl
    have xO1 := hO22.cell 1 _ rfl
    have xO2 := hO22.cell 2 _ rfl
    have xO3 := hO22.cell 3 _ rfl
    have xO4 := hO22.cell 4 _ rfl
    have xO5 := hO22.cell 5 _ rfl
    have lL := hL22.1
    have xL0 := hL22.cell 0 _ rfl
    have xL1 := hL22.cell 1 _ rfl
    have xL2 := hL22.cell 2 _ rfl
    have xL3 := hL22.cell 3 _ rfl
    have xL4 := hL22.cell 4 _ rfl
    have xL5 := hL22.cell 5 _ rfl
    go_wp2_with fail
    refine (checkPen_is ⟨39, 1, 128, 0, 0, ⟨#[]⟩⟩ 0 (by decide +kernel) _ ((H.out).keep hW22)).mono ?_
    rintro e w23 ⟨rfl, hb23⟩
    have hW23 := hW22.trans (hb23.mono hW22.size)
    clear lN xN0 xN1 xN2 xN3 xN4 xN5
    clear lO xO0 xO1 xO2 xO3 xO4 xO5
    clear lL xL0 xL1 xL2 xL3 xL4 xL5
    have hN23 := hN22.keep hb23
    have hO23 := hO22.keep hb23
    have hL23 := hL22.keep hb23
    clear hb23 hW22 hN22 hO22 hL22
    have lN := hN23.1
    have xN0 := hN23.cell 0 _ rfl
    have xN1 := hN23.cell 1 _ rfl
    have xN2 := hN23.cell 2 _ rfl
    have xN3 := hN23.cell 3 _ rfl
    have xN4 := hN23.cell 4 _ rfl
    have xN5 := hN23.cell 5 _ rfl
    have lO := hO23.1
    have xO0 := hO23.cell 0 _ rfl
    have xO1 := hO23.cell 1 _ rfl
    have xO2 := hO23.cell 2 _ rfl
    have xO3 := hO23.cell 3 _ rfl
    have xO4 := hO23.cell 4 _ rfl
    have xO5 := hO23.cell 5 _ rfl
    have lL := hL23.1
    have xL0 := hL23.cell 0 _ rfl
    have xL1 := hL23.cell 1 _ rfl
    have xL2 := hL23.cell 2 _ rfl
    have xL3 := hL23.cell 3 _ rfl
    have xL4 := hL23.cell 4 _ rfl
    have xL5 := hL23.cell 5 _ rfl
    go_wp2_with fail
    refine (lpen_any _ _ _).mono ?_
    rintro e w24 ⟨rfl, hb24⟩
    have hW24 := hW23.trans (hb24.mono hW23.size)
    clear lN xN0 xN1 xN2 xN3 xN4 xN5
    clear lO xO0 xO1 xO2 xO3 xO4 xO5
    clear lL xL0 xL1 xL2 xL3 xL4 xL5
    have hN24 := hN23.keep hb24
    have hO24 := hO23.keep hb24
    have hL24 := hL23.keep hb24
    clear hb24 hW23 hN23 hO23 hL23
    have lN := hN24.1
    have xN0 := hN24.cell 0 _ rfl
    have xN1 := hN24.cell 1 _ rfl
    have xN2 := hN24.cell 2 _ rfl
    have xN3 := hN24.cell 3 _ rfl
    have xN4 := hN24.cell 4 _ rfl
    have xN5 := hN24.cell 5 _ rfl
    have lO := hO24.1
    have xO0 := hO24.cell 0 _ rfl
    have xO1 := hO24.cell 1 _ rfl
    have xO2 := hO24.cell 2 _ rfl
    have xO3 := hO24.cell 3 _ rfl
    have xO4 := hO24.cell 4 _ rfl
    have xO5 := hO24.cell 5 _ rfl
    have lL := hL24.1
    have xL0 := hL24.cell 0 _ rfl
    have xL1 := hL24.cell 1 _ rfl
    have xL2 := hL24.cell 2 _ rfl
    have xL3 := hL24.cell 3 _ rfl
    have xL4 := hL24.cell 4 _ rfl
    have xL5 := hL24.cell 5 _ rfl
    go_wp2_with fail
    refine (checkPen_is ⟨39, 1, 256, 0, 0, ⟨#[]⟩⟩ 141 (by decide +kernel) _ ((H.out).keep hW24)).mono ?_
    rintro e w25 ⟨rfl, hb25⟩
    have hW25 := hW24.trans (hb25.mono hW24.size)
    clear lN xN0 xN1 xN2 xN3 xN4 xN5
    clear lO xO0 xO1 xO2 xO3 xO4 xO5
    clear lL xL0 xL1 xL2 xL3 xL4 xL5
    have hN25 := hN24.keep hb25
    have hO25 := hO24.keep hb25
    have hL25 := hL24.keep hb25
    clear hb25 hW24 hN24 hO24 hL24
    have lN := hN25.1
    have xN0 := hN25.cell 0 _ rfl
    have xN1 := hN25.cell 1 _ rfl
    have xN2 := hN25.cell 2 _ rfl
    have xN3 := hN25.cell 3 _ rfl
    have xN4 := hN25.cell 4 _ rfl
    have xN5 := hN25.cell 5 _ rfl
    have lO := hO25.1
    have xO0 := hO25.cell 0 _ rfl
    have xO1 := hO25.cell 1 _ rfl
    have xO2 := hO25.cell 2 _ rfl
    have xO3 := hO25.cell 3 _ rfl
    have xO4 := hO25.cell 4 _ rfl
    have xO5 := hO25.cell 5 _ rfl
    have lL := hL25.1
    have xL0 := hL25.cell 0 _ rfl
    have xL1 := hL25.cell 1 _ rfl
    have xL2 := hL25.cell 2 _ rfl
    have xL3 := hL25.cell 3 _ rfl
    have xL4 := hL25.cell 4 _ rfl
    have xL5 := hL25.cell 5 _ rfl
    go_wp2_with fail
    refine (lpen_any _ _ _).mono ?_
    rintro e w26 ⟨rfl, hb26⟩
    have hW26 := hW25.trans (hb26.mono hW25.size)
    clear lN xN0 xN1 xN2 xN3 xN4 xN5
    clear lO xO0 xO1 xO2 xO3 xO4 xO5
    clear lL xL0 xL1 xL2 xL3 xL4 xL5
    have hN26 := hN25.keep hb26
    have hO26 := hO25.keep hb26
    have hL26 := hL25.keep hb26
    clear hb26 hW25 hN25 hO25 hL25
    have lN := hN26.1
    have xN0 := hN26.cell 0 _ rfl
    have xN1 := hN26.cell 1 _ rfl
    have xN2 := hN26.cell 2 _ rfl
    have xN3 := hN26.cell 3 _ rfl
    have xN4 := hN26.cell 4 _ rfl
    have xN5 := hN26.cell 5 _ rfl
    have lO := hO26.1
    have xO0 := hO26.cell 0 _ rfl
    have xO1 := hO26.cell 1 _ rfl
    have xO2 := hO26.cell 2 _ rfl
    have xO3 := hO26.cell 3 _ rfl
    have xO4 := hO26.cell 4 _ rfl
    have xO5 := hO26.cell 5 _ rfl
    have lL := hL26.1
    have xL0 := hL26.cell 0 _ rfl
    have xL1 := hL26.cell 1 _ rfl
    have xL2 := hL26.cell 2 _ rfl
    have xL3 := hL26.cell 3 _ rfl
    have xL4 := hL26.cell 4 _ rfl
    have xL5 := hL26.cell 5 _ rfl
    go_wp2_with fail
    refine (checkPen_is ⟨39, 2, 2, 0, 0, ⟨#[]⟩⟩ 141 (by decide +kernel) _ ((H.out).keep hW26)).mono ?_
    rintro e w27 ⟨rfl, hb27⟩
    have hW27 := hW26.trans (hb27.mono hW26.size)
    clear lN xN0 xN1 xN2 xN3 xN4 xN5
    clear lO xO0 xO1 xO2 xO3 xO4 xO5
    clear lL xL0 xL1 xL2 xL3 xL4 xL5
    have hN27 := hN26.keep hb27
    have hO27 := hO26.keep hb27
    have hL27 := hL26.keep hb27
    clear hb27 hW26 hN26 hO26 hL26
    have lN := hN27.1
    have xN0 := hN27.cell 0 _ rfl
    have xN1 := hN27.cell 1 _ rfl
    have xN2 := hN27.cell 2 _ rfl
    have xN3 := hN27.cell 3 _ rfl
    have xN4 := hN27.cell 4 _ rfl
    have xN5 := hN27.cell 5 _ rfl
    have lO := hO27.1
    have xO0 := hO27.cell 0 _ rfl
    have xO1 := hO27.cell 1 _ rfl
    have xO2 := hO27.cell 2 _ rfl
    have xO3 := hO27.cell 3 _ rfl
    have xO4 := hO27.cell 4 _ rfl
    have xO5 := hO27.cell 5 _ rfl
    have lL := hL27.1
    have xL0 := hL27.cell 0 _ rfl
    have xL1 := hL27.cell 1 _ rfl
    have xL2 := hL27.cell 2 _ rfl
    have xL3 := hL27.cell 3 _ rfl
    have xL4 := hL27.cell 4 _ rfl
    have xL5 := hL27.cell 5 _ rfl
    go_wp2_with fail
    refine (lpen_any _ _ _).mono ?_
    rintro e w28 ⟨rfl, hb28⟩
    have hW28 := hW27.trans (hb28.mono hW27.size)
    clear lN xN0 xN1 xN2 xN3 xN4 xN5
    clear lO xO0 xO1 xO2 xO3 xO4 xO5
    clear lL xL0 xL1 xL2 xL3 xL4 xL5
    have hN28 := hN27.keep hb28
    have hO28 := hO27.keep hb28
    have hL28 := hL27.keep hb28
    clear hb28 hW27 hN27 hO27 hL27
    have lN := hN28.1
    have xN0 := hN28.cell 0 _ rfl
    have xN1 := hN28.cell 1 _ rfl
    have xN2 := hN28.cell 2 _ rfl
    have xN3 := hN28.cell 3 _ rfl
    have xN4 := hN28.cell 4 _ rfl
    have xN5 := hN28.cell 5 _ rfl
    have lO := hO28.1
    have xO0 := hO28.cell 0 _ rfl
    have xO1 := hO28.cell 1 _ rfl
    have xO2 := hO28.cell 2 _ rfl
    have xO3 := hO28.cell 3 _ rfl
    have xO4 := hO28.cell 4 _ rfl
    have xO5 := hO28.cell 5 _ rfl
    have lL := hL28.1
    have xL0 := hL28.cell 0 _ rfl
    have xL1 := hL28.cell 1 _ rfl
    have xL2 := hL28.cell 2 _ rfl
    have xL3 := hL28.cell 3 _ rfl
    have xL4 := hL28.cell 4 _ rfl
    have xL5 := hL28.cell 5 _ rfl
    go_wp2_with fail
    refine (checkPen_is ⟨39, 2, 128, 0, 0, ⟨#[]⟩⟩ 0 (by decide +kernel) _ ((H.out).keep hW28)).mono ?_
    rintro e w29 ⟨rfl, hb29⟩
    have hW29 := hW28.trans (hb29.mono hW28.size)
    clear lN xN0 xN1 xN2 xN3 xN4 xN5
    clear lO xO0 xO1 xO2 xO3 xO4 xO5
    clear lL xL0 xL1 xL2 xL3 xL4 xL5
    have hN29 := hN28.keep hb29
    have hO29 := hO28.keep hb29
    have hL29 := hL28.keep hb29
    clear hb29 hW28 hN28 hO28 hL28
    have lN := hN29.1
    have xN0 := hN29.cell 0 _ rfl
    have xN1 := hN29.cell 1 _ rfl
    have xN2 := hN29.cell 2 _ rfl
    have xN3 := hN29.cell 3 _ rfl
    have xN4 := hN29.cell 4 _ rfl
    have xN5 := hN29.cell 5 _ rfl
    have lO := hO29.1
    have xO0 := hO29.cell 0 _ rfl
    have xO1 := hO29.cell 1 _ rfl
    have xO2 := hO29.cell 2 _ rfl
    have xO3 := hO29.cell 3 _ rfl
    have xO4 := hO29.cell 4 _ rfl
    have xO5 := hO29.cell 5 _ rfl
    have lL := hL29.1
    have xL0 := hL29.cell 0 _ rfl
    have xL1 := hL29.cell 1 _ rfl
    have xL2 := hL29.cell 2 _ rfl
    have xL3 := hL29.cell 3 _ rfl
    have xL4 := hL29.cell 4 _ rfl
    have xL5 := hL29.cell 5 _ rfl
    go_wp2_with fail
    refine (lpen_any _ _ _).mono ?_
    rintro e w30 ⟨rfl, hb30⟩
    have hW30 := hW29.trans (hb30.mono hW29.size)
    clear lN xN0 xN1 xN2 xN3 xN4 xN5
    clear lO xO0 xO1 xO2 xO3 xO4 xO5
    clear lL xL0 xL1 xL2 xL3 xL4 xL5
    have hN30 := hN29.keep hb30
    have hO30 := hO29.keep hb30
    have hL30 := hL29.keep hb30
    clear hb30 hW29 hN29 hO29 hL29
    have lN := hN30.1
    have xN0 := hN30.cell 0 _ rfl
    have xN1 := hN30.cell 1 _ rfl
    have xN2 := hN30.cell 2 _ rfl
    have xN3 := hN30.cell 3 _ rfl
    have xN4 := hN30.cell 4 _ rfl
    have xN5 := hN30.cell 5 _ rfl
    have lO := hO30.1
    have xO0 := hO30.cell 0 _ rfl
    have xO1 := hO30.cell 1 _ rfl
    have xO2 := hO30.cell 2 _ rfl
    have xO3 := hO30.cell 3 _ rfl
    have xO4 := hO30.cell 4 _ rfl
    have xO5 := hO30.cell 5 _ rfl
    have lL := hL30.1
    have xL0 := hL30.cell 0 _ rfl
    have xL1 := hL30.cell 1 _ rfl
    have xL2 := hL30.cell 2 _ rfl
    have xL3 := hL30.cell 3 _ rfl
    have xL4 := hL30.cell 4 _ rfl
    have xL5 := hL30.cell 5 _ rfl
    go_wp2_with fail
    refine (checkPen_is ⟨39, 3, (-1), 0, 0, ⟨#[]⟩⟩ 141 (by decide +kernel) _ ((H.out).keep hW30)).mono ?_
    rintro e w31 ⟨rfl, hb31⟩
    have hW31 := hW30.trans (hb31.mono hW30.size)
    clear lN xN0 xN1 xN2 xN3 xN4 xN5
    clear lO xO0 xO1 xO2 xO3 xO4 xO5
    clear lL xL0 xL1 xL2 xL3 xL4 xL5
    have hN31 := hN30.keep hb31
    have hO31 := hO30.keep hb31
    have hL31 := hL30.keep hb31
    clear hb31 hW30 hN30 hO30 hL30
    have lN := hN31.1
    have xN0 := hN31.cell 0 _ rfl
    have xN1 := hN31.cell 1 _ rfl
    have xN2 := hN31.cell 2 _ rfl
    have xN3 := hN31.cell 3 _ rfl
    have xN4 := hN31.cell 4 _ rfl
    have xN5 := hN31.cell 5 _ rfl
    have lO := hO31.1
    have xO0 := hO31.cell 0 _ rfl
    have xO1 := hO31.cell 1 _ rfl
    have xO2 := hO31.cell 2 _ rfl
    have xO3 := hO31.cell 3 _ rfl
    have xO4 := hO31.cell 4 _ rfl
    have xO5 := hO31.cell 5 _ rfl
    have lL := hL31.1
    have xL0 := hL31.cell 0 _ rfl
    have xL1 := hL31.cell 1 _ rfl
    have xL2 := hL31.cell 2 _ rfl
    have xL3 := hL31.cell 3 _ rfl
    have xL4 := hL31.cell 4 _ rfl
    have xL5 := hL31.cell 5 _ rfl
    go_wp2_with fail
    refine (checkPen_is ⟨1, 0, 0, 0, 0, ⟨#[]⟩⟩ 141 (by decide +kernel) _ ((H.out).keep hW31)).mono ?_
    rintro e w32 ⟨rfl, hb32⟩
    have hW32 := hW31.trans (hb32.mono hW31.size)
    clear lN xN0 xN1 xN2 xN3 xN4 xN5
    clear lO xO0 xO1 xO2 xO3 xO4 xO5
    clear lL xL0 xL1 xL2 xL3 xL4 xL5
    have hN32 := hN31.keep hb32
    have hO32 := hO31.keep hb32
    have hL32 := hL31.keep hb32
    clear hb32 hW31 hN31 hO31 hL31
    have lN := hN32.1
    have xN0 := hN32.cell 0 _ rfl
    have xN1 := hN32.cell 1 _ rfl
    have xN2 := hN32.cell 2 _ rfl
    have xN3 := hN32.cell 3 _ rfl
    have xN4 := hN32.cell 4 _ rfl
    have xN5 := hN32.cell 5 _ rfl
    have lO := hO32.1
    have xO0 := hO32.cell 0 _ rfl
    have xO1 := hO32.cell 1 _ rfl
    have xO2 := hO32.cell 2 _ rfl
    have xO3 := hO32.cell 3 _ rfl
    have xO4 := hO32.cell 4 _ rfl
    have xO5 := hO32.cell 5 _ rfl
    have lL := hL32.1
    have xL0 := hL32.cell 0 _ rfl
    have xL1 := hL32.cell 1 _ rfl
    have xL2 := hL32.cell 2 _ rfl
    have xL3 := hL32.cell 3 _ rfl
    have xL4 := hL32.cell 4 _ rfl
    have xL5 := hL32.cell 5 _ rfl
    go_wp2_with fail
    refine (checkPen_is ⟨39, 0, 0, 0, 0, ⟨#[]⟩⟩ 0 (by decide +kernel) _ ((H.out).keep hW32)).mono ?_
    rintro e w33 ⟨rfl, hb33⟩
    have hW33 := hW32.trans (hb33.mono hW32.size)
    clear lN xN0 xN1 xN2 xN3 xN4 xN5
    clear lO xO0 xO1 xO2 xO3 xO4 xO5
    clear lL xL0 xL1 xL2 xL3 xL4 xL5
    have hN33 := hN32.keep hb33
    have hO33 := hO32.keep hb33
    have hL33 := hL32.keep hb33
    clear hb33 hW32 hN32 hO32 hL32
    have lN := hN33.1
    have xN0 := hN33.cell 0 _ rfl
    have xN1 := hN33.cell 1 _ rfl
    have xN2 := hN33.cell 2 _ rfl
    have xN3 := hN33.cell 3 _ rfl
    have xN4 := hN33.cell 4 _ rfl
    have xN5 := hN33.cell 5 _ rfl
    have lO := hO33.1
    have xO0 := hO33.cell 0 _ rfl
    have xO1 := hO33.cell 1 _ rfl
    have xO2 := hO33.cell 2 _ rfl
    have xO3 := hO33.cell 3 _ rfl
    have xO4 := hO33.cell 4 _ rfl
    have xO5 := hO33.cell 5 _ rfl
    have lL := hL33.1
    have xL0 := hL33.cell 0 _ rfl
    have xL1 := hL33.cell 1 _ rfl
    have xL2 := hL33.cell 2 _ rfl
    have xL3 := hL33.cell 3 _ rfl
    have xL4 := hL33.cell 4 _ rfl
    have xL5 := hL33.cell 5 _ rfl
    go_wp2_with fail
    refine (apply_is ⟨-1, 0, 0, 0, 0, 0, 0, 0⟩ ⟨39, 4, 1, 0, 0, ⟨#[]⟩⟩ ⟨0, 0, 0, 0, 0, 0, 0, 0⟩ 140 (by decide +kernel) (by decide +kernel) _ ((H.out).keep hW33)).mono ?_
    rintro e w34 ⟨rfl, hb34⟩
    have hW34 := hW33.trans (hb34.mono hW33.size)
    clear lN xN0 xN1 xN2 xN3 xN4 xN5
    clear lO xO0 xO1 xO2 xO3 xO4 xO5
    clear lL xL0 xL1 xL2 xL3 xL4 xL5
    have hN34 := hN33.keep hb34
    have hO34 := hO33.keep hb34
    have hL34 := hL33.keep hb34
    clear hb34 hW33 hN33 hO33 hL33
    have lN := hN34.1
    have xN0 := hN34.cell 0 _ rfl
    have xN1 := hN34.cell 1 _ rfl
    have xN2 := hN34.cell 2 _ rfl
    have xN3 := hN34.cell 3 _ rfl
    have xN4 := hN34.cell 4 _ rfl
    have xN5 := hN34.cell 5 _ rfl
    have lO := hO34.1
    have xO0 := hO34.cell 0 _ rfl
    have xO1 := hO34.cell 1 _ rfl
    have xO2 := hO34.cell 2 _ rfl
    have xO3 := hO34.cell 3 _ rfl
    have xO4 := hO34.cell 4 _ rfl
    have xO5 := hO34.cell 5 _ rfl
    have lL := hL34.1
    have xL0 := hL34.cell 0 _ rfl
    have xL1 := hL34.cell 1 _ rfl
    have xL2 := hL34.cell 2 _ rfl
    have xL3 := hL34.cell 3 _ rfl
    have xL4 := hL34.cell 4 _ rfl
    have xL5 := hL34.cell 5 _ rfl
    go_wp2_with fail
    have hW35 := (hW34.alloc hW34.size (.cells #[.int .i64 0, .int .i64 0, .int .i64 0, .int .i64 0, .int .i64 0, .int .i64 0, .int .i64 0, .int .i64 0] 25)).alloc (hW34.alloc hW34.size (.cells #[.int .i64 0, .int .i64 0, .int .i64 0, .int .i64 0, .int .i64 0, .int .i64 0, .int .i64 0, .int .i64 0] 25)).size (.cells #[.int .i64 39, .int .i64 4, .int .i64 0, .int .i64 0, .int .i64 0, .string ⟨#[]⟩, .int .i64 39, .int .i64 4, .int .i64 1, .int .i64 0, .int .i64 0, .string ⟨#[]⟩] 27)
    have hR := RdP.lay (w34.alloc (.cells #[.int .i64 0, .int .i64 0, .int .i64 0, .int .i64 0, .int .i64 0, .int .i64 0, .int .i64 0, .int .i64 0] 25)) [⟨39, 4, 0, 0, 0, ⟨#[]⟩⟩, ⟨39, 4, 1, 0, 0, ⟨#[]⟩⟩] #[.int .i64 39, .int .i64 4, .int .i64 0, .int .i64 0, .int .i64 0, .string ⟨#[]⟩, .int .i64 39, .int .i64 4, .int .i64 1, .int .i64 0, .int .i64 0, .string ⟨#[]⟩] 27 rfl
    rw [show (w34.alloc (.cells #[.int .i64 0, .int .i64 0, .int .i64 0, .int .i64 0, .int .i64 0, .int .i64 0, .int .i64 0, .int .i64 0] 25)).heap.size = w34.heap.size + 1 by simp] at hR
    generalize (w34.alloc (.cells #[.int .i64 0, .int .i64 0, .int .i64 0, .int .i64 0, .int .i64 0, .int .i64 0, .int .i64 0, .int .i64 0] 25)).alloc (.cells #[.int .i64 39, .int .i64 4, .int .i64 0, .int .i64 0, .int .i64 0, .string ⟨#[]⟩, .int .i64 39, .int .i64 4, .int .i64 1, .int .i64 0, .int .i64 0, .string ⟨#[]⟩] 27) = w35 at hW35 hR ⊢
    clear lN xN0 xN1 xN2 xN3 xN4 xN5
    clear lO xO0 xO1 xO2 xO3 xO4 xO5
    clear lL xL0 xL1 xL2 xL3 xL4 xL5
    clear hW34 hN34 hO34 hL34
    refine (run_is ⟨1, 0, 0, 0, 0, 0, 0, 0⟩ _ [⟨39, 4, 0, 0, 0, ⟨#[]⟩⟩, ⟨39, 4, 1, 0, 0, ⟨#[]⟩⟩] 2 2 rfl ⟨0, 0, 0, 0, 0, 0, 0, 0⟩ 141 (by decide +kernel) (by decide +kernel) _ ((H.out).keep hW35) hR (by omega)).mono ?_
    rintro e w36 ⟨rfl, hb36⟩
    have hW36 := hW35.trans (hb36.mono hW35.size)
    clear hb36 hW35 hR
    go_wp2_with fail
    have hS36 : Box (w36.alloc (.cells #[.int .i64 0, .int .i64 0, .int .i64 0, .int .i64 0, .int .i64 0, .int .i64 0, .int .i64 0, .int .i64 0] 25)) w36.heap.size (cS z8) := Box.new _ _ _
    have hX36 := hW36.alloc hW36.size (.cells #[.int .i64 0, .int .i64 0, .int .i64 0, .int .i64 0, .int .i64 0, .int .i64 0, .int .i64 0, .int .i64 0] 25)
    generalize w36.alloc (.cells #[.int .i64 0, .int .i64 0, .int .i64 0, .int .i64 0, .int .i64 0, .int .i64 0, .int .i64 0, .int .i64 0] 25) = w37 at hS36 hX36 ⊢
    generalize w36.heap.size = T at hS36 ⊢
    refine (works_any _ ((H.out).keep hX36)).mono ?_
    rintro e w38 ⟨rfl, hb⟩
    have hY := hX36.trans (hb.mono hX36.size)
    have hT := hS36.keep hb
    clear hb hX36 hS36 hW36
    have lT := hT.1
    have t0 := hT.cell 0 _ rfl
    have t1 := hT.cell 1 _ rfl
    have t2 := hT.cell 2 _ rfl
    have t3 := hT.cell 3 _ rfl
    have t4 := hT.cell 4 _ rfl
    have t5 := hT.cell 5 _ rfl
    have t6 := hT.cell 6 _ rfl
    have t7 := hT.cell 7 _ rfl
    go_wp2_with fail
    refine (makes_yes ⟨7, 0, 0, 0, 0, 0, 0, 0⟩ ⟨7, 0, 0, 0, 0, 0, 0, 0⟩ none [] 0 0 rfl (by decide +kernel) (by decide +kernel) _ ((H.out).keep hY) (RdP.nil _ _) (by omega)).mono ?_
    rintro e w39 ⟨rfl, hb⟩
    have hF := Lib.hid (hY.trans (hb.mono hY.size))
    clear hb hY hT lT t0 t1 t2 t3 t4 t5 t6 t7
    go_wp2
    go_ret
    exact ⟨rfl, hF.out⟩
  · go_wp2_with fail
    have hN10 : Box ((((w9.alloc (.cells #[.int .i64 39, .int .i64 4, .int .i64 0, .int .i64 0, .int .i64 0, .string ⟨#[]⟩] 27)).alloc (.cells #[.int .i64 39, .int .i64 6, .int .i64 0, .int .i64 0, .int .i64 0, .string ⟨#[]⟩] 27)).alloc (.cells #[.int .i64 39, .int .i64 4, .int .i64 1, .int .i64 0, .int .i64 0, .string ⟨#[]⟩] 27)).drew) w9.heap.size [.int .i64 39, .int .i64 4, .int .i64 0, .int .i64 0, .int .i64 0, .string ⟨#[]⟩] := (((Box.new _ _ _).alloc _).alloc _).drew
    have hL10 : Box ((((w9.alloc (.cells #[.int .i64 39, .int .i64 4, .int .i64 0, .int .i64 0, .int .i64 0, .string ⟨#[]⟩] 27)).alloc (.cells #[.int .i64 39, .int .i64 6, .int .i64 0, .int .i64 0, .int .i64 0, .string ⟨#[]⟩] 27)).alloc (.cells #[.int .i64 39, .int .i64 4, .int .i64 1, .int .i64 0, .int .i64 0, .string ⟨#[]⟩] 27)).drew) (w9.heap.size + 1) [.int .i64 39, .int .i64 6, .int .i64 0, .int .i64 0, .int .i64 0, .string ⟨#[]⟩] := ((Box.of (alloc1_at _ _ _)).alloc _).drew
    have hO10 : Box ((((w9.alloc (.cells #[.int .i64 39, .int .i64 4, .int .i64 0, .int .i64 0, .int .i64 0, .string ⟨#[]⟩] 27)).alloc (.cells #[.int .i64 39, .int .i64 6, .int .i64 0, .int .i64 0, .int .i64 0, .string ⟨#[]⟩] 27)).alloc (.cells #[.int .i64 39, .int .i64 4, .int .i64 1, .int .i64 0, .int .i64 0, .string ⟨#[]⟩] 27)).drew) (w9.heap.size + 1 + 1) [.int .i64 39, .int .i64 4, .int .i64 1, .int .i64 0, .int .i64 0, .string ⟨#[]⟩] := (Box.of (alloc2_at _ _ _ _)).drew
    have hW10 : Below w.heap.size w ((((w9.alloc (.cells #[.int .i64 39, .int .i64 4, .int .i64 0, .int .i64 0, .int .i64 0, .string ⟨#[]⟩] 27)).alloc (.cells #[.int .i64 39, .int .i64 6, .int .i64 0, .int .i64 0, .int .i64 0, .string ⟨#[]⟩] 27)).alloc (.cells #[.int .i64 39, .int .i64 4, .int .i64 1, .int .i64 0, .int .i64 0, .string ⟨#[]⟩] 27)).drew) := (((hW9.alloc hW9.size _).alloc (hW9.alloc hW9.size _).size _).alloc ((hW9.alloc hW9.size _).alloc (hW9.alloc hW9.size _).size _).size _).drew
    generalize (((w9.alloc (.cells #[.int .i64 39, .int .i64 4, .int .i64 0, .int .i64 0, .int .i64 0, .string ⟨#[]⟩] 27)).alloc (.cells #[.int .i64 39, .int .i64 6, .int .i64 0, .int .i64 0, .int .i64 0, .string ⟨#[]⟩] 27)).alloc (.cells #[.int .i64 39, .int .i64 4, .int .i64 1, .int .i64 0, .int .i64 0, .string ⟨#[]⟩] 27)).drew = w10 at hN10 hL10 hO10 hW10 ⊢
    generalize w9.heap.size + 1 + 1 = O at hO10 ⊢
    generalize w9.heap.size + 1 = L at hL10 ⊢
    generalize w9.heap.size = N at hN10 ⊢
    clear hW9
    have lN := hN10.1
    have xN0 := hN10.cell 0 _ rfl
    have xN1 := hN10.cell 1 _ rfl
    have xN2 := hN10.cell 2 _ rfl
    have xN3 := hN10.cell 3 _ rfl
    have xN4 := hN10.cell 4 _ rfl
    have xN5 := hN10.cell 5 _ rfl
    have lO := hO10.1
    have xO0 := hO10.cell 0 _ rfl
    have xO1 := hO10.cell 1 _ rfl
    have xO2 := hO10.cell 2 _ rfl
    have xO3 := hO10.cell 3 _ rfl
    have xO4 := hO10.cell 4 _ rfl
    have xO5 := hO10.cell 5 _ rfl
    have lL := hL10.1
    have xL0 := hL10.cell 0 _ rfl
    have xL1 := hL10.cell 1 _ rfl
    have xL2 := hL10.cell 2 _ rfl
    have xL3 := hL10.cell 3 _ rfl
    have xL4 := hL10.cell 4 _ rfl
    have xL5 := hL10.cell 5 _ rfl
    refine (checkPen_is ⟨39, 4, 0, 0, 0, ⟨#[]⟩⟩ 0 (by decide +kernel) _ ((H.out).keep hW10)).mono ?_
    rintro e w11 ⟨rfl, hb11⟩
    have hW11 := hW10.trans (hb11.mono hW10.size)
    clear lN xN0 xN1 xN2 xN3 xN4 xN5
    clear lO xO0 xO1 xO2 xO3 xO4 xO5
    clear lL xL0 xL1 xL2 xL3 xL4 xL5
    have hN11 := hN10.keep hb11
    have hO11 := hO10.keep hb11
    have hL11 := hL10.keep hb11
    clear hb11 hW10 hN10 hO10 hL10
    have lN := hN11.1
    have xN0 := hN11.cell 0 _ rfl
    have xN1 := hN11.cell 1 _ rfl
    have xN2 := hN11.cell 2 _ rfl
    have xN3 := hN11.cell 3 _ rfl
    have xN4 := hN11.cell 4 _ rfl
    have xN5 := hN11.cell 5 _ rfl
    have lO := hO11.1
    have xO0 := hO11.cell 0 _ rfl
    have xO1 := hO11.cell 1 _ rfl
    have xO2 := hO11.cell 2 _ rfl
    have xO3 := hO11.cell 3 _ rfl
    have xO4 := hO11.cell 4 _ rfl
    have xO5 := hO11.cell 5 _ rfl
    have lL := hL11.1
    have xL0 := hL11.cell 0 _ rfl
    have xL1 := hL11.cell 1 _ rfl
    have xL2 := hL11.cell 2 _ rfl
    have xL3 := hL11.cell 3 _ rfl
    have xL4 := hL11.cell 4 _ rfl
    have xL5 := hL11.cell 5 _ rfl
    go_wp2_with fail
    refine (checkPen_is ⟨39, 6, 0, 0, 0, ⟨#[]⟩⟩ 0 (by decide +kernel) _ ((H.out).keep hW11)).mono ?_
    rintro e w12 ⟨rfl, hb12⟩
    have hW12 := hW11.trans (hb12.mono hW11.size)
    clear lN xN0 xN1 xN2 xN3 xN4 xN5
    clear lO xO0 xO1 xO2 xO3 xO4 xO5
    clear lL xL0 xL1 xL2 xL3 xL4 xL5
    have hN12 := hN11.keep hb12
    have hO12 := hO11.keep hb12
    have hL12 := hL11.keep hb12
    clear hb12 hW11 hN11 hO11 hL11
    have lN := hN12.1
    have xN0 := hN12.cell 0 _ rfl
    have xN1 := hN12.cell 1 _ rfl
    have xN2 := hN12.cell 2 _ rfl
    have xN3 := hN12.cell 3 _ rfl
    have xN4 := hN12.cell 4 _ rfl
    have xN5 := hN12.cell 5 _ rfl
    have lO := hO12.1
    have xO0 := hO12.cell 0 _ rfl
    have xO1 := hO12.cell 1 _ rfl
    have xO2 := hO12.cell 2 _ rfl
    have xO3 := hO12.cell 3 _ rfl
    have xO4 := hO12.cell 4 _ rfl
    have xO5 := hO12.cell 5 _ rfl
    have lL := hL12.1
    have xL0 := hL12.cell 0 _ rfl
    have xL1 := hL12.cell 1 _ rfl
    have xL2 := hL12.cell 2 _ rfl
    have xL3 := hL12.cell 3 _ rfl
    have xL4 := hL12.cell 4 _ rfl
    have xL5 := hL12.cell 5 _ rfl
    go_wp2_with fail
    refine (checkPen_is ⟨39, 4, 1, 0, 0, ⟨#[]⟩⟩ 141 (by decide +kernel) _ ((H.out).keep hW12)).mono ?_
    rintro e w13 ⟨rfl, hb13⟩
    have hW13 := hW12.trans (hb13.mono hW12.size)
    clear lN xN0 xN1 xN2 xN3 xN4 xN5
    clear lO xO0 xO1 xO2 xO3 xO4 xO5
    clear lL xL0 xL1 xL2 xL3 xL4 xL5
    have hN13 := hN12.keep hb13
    have hO13 := hO12.keep hb13
    have hL13 := hL12.keep hb13
    clear hb13 hW12 hN12 hO12 hL12
    have lN := hN13.1
    have xN0 := hN13.cell 0 _ rfl
    have xN1 := hN13.cell 1 _ rfl
    have xN2 := hN13.cell 2 _ rfl
    have xN3 := hN13.cell 3 _ rfl
    have xN4 := hN13.cell 4 _ rfl
    have xN5 := hN13.cell 5 _ rfl
    have lO := hO13.1
    have xO0 := hO13.cell 0 _ rfl
    have xO1 := hO13.cell 1 _ rfl
    have xO2 := hO13.cell 2 _ rfl
    have xO3 := hO13.cell 3 _ rfl
    have xO4 := hO13.cell 4 _ rfl
    have xO5 := hO13.cell 5 _ rfl
    have lL := hL13.1
    have xL0 := hL13.cell 0 _ rfl
    have xL1 := hL13.cell 1 _ rfl
    have xL2 := hL13.cell 2 _ rfl
    have xL3 := hL13.cell 3 _ rfl
    have xL4 := hL13.cell 4 _ rfl
    have xL5 := hL13.cell 5 _ rfl
    go_wp2_with fail
    refine (lpen_any _ _ _).mono ?_
    rintro e w14 ⟨rfl, hb14⟩
    have hW14 := hW13.trans (hb14.mono hW13.size)
    clear lN xN0 xN1 xN2 xN3 xN4 xN5
    clear lO xO0 xO1 xO2 xO3 xO4 xO5
    clear lL xL0 xL1 xL2 xL3 xL4 xL5
    have hN14 := hN13.keep hb14
    have hO14 := hO13.keep hb14
    have hL14 := hL13.keep hb14
    clear hb14 hW13 hN13 hO13 hL13
    have lN := hN14.1
    have xN0 := hN14.cell 0 _ rfl
    have xN1 := hN14.cell 1 _ rfl
    have xN2 := hN14.cell 2 _ rfl
    have xN3 := hN14.cell 3 _ rfl
    have xN4 := hN14.cell 4 _ rfl
    have xN5 := hN14.cell 5 _ rfl
    have lO := hO14.1
    have xO0 := hO14.cell 0 _ rfl
    have xO1 := hO14.cell 1 _ rfl
    have xO2 := hO14.cell 2 _ rfl
    have xO3 := hO14.cell 3 _ rfl
    have xO4 := hO14.cell 4 _ rfl
    have xO5 := hO14.cell 5 _ rfl
    have lL := hL14.1
    have xL0 := hL14.cell 0 _ rfl
    have xL1 := hL14.cell 1 _ rfl
    have xL2 := hL14.cell 2 _ rfl
    have xL3 := hL14.cell 3 _ rfl
    have xL4 := hL14.cell 4 _ rfl
    have xL5 := hL14.cell 5 _ rfl
    go_wp2_with fail
    refine (checkPen_is ⟨39, 7, 0, 0, 0, ⟨#[]⟩⟩ 141 (by decide +kernel) _ ((H.out).keep hW14)).mono ?_
    rintro e w15 ⟨rfl, hb15⟩
    have hW15 := hW14.trans (hb15.mono hW14.size)
    clear lN xN0 xN1 xN2 xN3 xN4 xN5
    clear lO xO0 xO1 xO2 xO3 xO4 xO5
    clear lL xL0 xL1 xL2 xL3 xL4 xL5
    have hN15 := hN14.keep hb15
    have hO15 := hO14.keep hb15
    have hL15 := hL14.keep hb15
    clear hb15 hW14 hN14 hO14 hL14
    have lN := hN15.1
    have xN0 := hN15.cell 0 _ rfl
    have xN1 := hN15.cell 1 _ rfl
    have xN2 := hN15.cell 2 _ rfl
    have xN3 := hN15.cell 3 _ rfl
    have xN4 := hN15.cell 4 _ rfl
    have xN5 := hN15.cell 5 _ rfl
    have lO := hO15.1
    have xO0 := hO15.cell 0 _ rfl
    have xO1 := hO15.cell 1 _ rfl
    have xO2 := hO15.cell 2 _ rfl
    have xO3 := hO15.cell 3 _ rfl
    have xO4 := hO15.cell 4 _ rfl
    have xO5 := hO15.cell 5 _ rfl
    have lL := hL15.1
    have xL0 := hL15.cell 0 _ rfl
    have xL1 := hL15.cell 1 _ rfl
    have xL2 := hL15.cell 2 _ rfl
    have xL3 := hL15.cell 3 _ rfl
    have xL4 := hL15.cell 4 _ rfl
    have xL5 := hL15.cell 5 _ rfl
    go_wp2_with fail
    refine (lpen_any _ _ _).mono ?_
    rintro e w16 ⟨rfl, hb16⟩
    have hW16 := hW15.trans (hb16.mono hW15.size)
    clear lN xN0 xN1 xN2 xN3 xN4 xN5
    clear lO xO0 xO1 xO2 xO3 xO4 xO5
    clear lL xL0 xL1 xL2 xL3 xL4 xL5
    have hN16 := hN15.keep hb16
    have hO16 := hO15.keep hb16
    have hL16 := hL15.keep hb16
    clear hb16 hW15 hN15 hO15 hL15
    have lN := hN16.1
    have xN0 := hN16.cell 0 _ rfl
    have xN1 := hN16.cell 1 _ rfl
    have xN2 := hN16.cell 2 _ rfl
    have xN3 := hN16.cell 3 _ rfl
    have xN4 := hN16.cell 4 _ rfl
    have xN5 := hN16.cell 5 _ rfl
    have lO := hO16.1
    have xO0 := hO16.cell 0 _ rfl
    have xO1 := hO16.cell 1 _ rfl
    have xO2 := hO16.cell 2 _ rfl
    have xO3 := hO16.cell 3 _ rfl
    have xO4 := hO16.cell 4 _ rfl
    have xO5 := hO16.cell 5 _ rfl
    have lL := hL16.1
    have xL0 := hL16.cell 0 _ rfl
    have xL1 := hL16.cell 1 _ rfl
    have xL2 := hL16.cell 2 _ rfl
    have xL3 := hL16.cell 3 _ rfl
    have xL4 := hL16.cell 4 _ rfl
    have xL5 := hL16.cell 5 _ rfl
    go_wp2_with fail
    refine (checkPen_is ⟨39, (-1), 0, 0, 0, ⟨#[]⟩⟩ 141 (by decide +kernel) _ ((H.out).keep hW16)).mono ?_
    rintro e w17 ⟨rfl, hb17⟩
    have hW17 := hW16.trans (hb17.mono hW16.size)
    clear lN xN0 xN1 xN2 xN3 xN4 xN5
    clear lO xO0 xO1 xO2 xO3 xO4 xO5
    clear lL xL0 xL1 xL2 xL3 xL4 xL5
    have hN17 := hN16.keep hb17
    have hO17 := hO16.keep hb17
    have hL17 := hL16.keep hb17
    clear hb17 hW16 hN16 hO16 hL16
    have lN := hN17.1
    have xN0 := hN17.cell 0 _ rfl
    have xN1 := hN17.cell 1 _ rfl
    have xN2 := hN17.cell 2 _ rfl
    have xN3 := hN17.cell 3 _ rfl
    have xN4 := hN17.cell 4 _ rfl
    have xN5 := hN17.cell 5 _ rfl
    have lO := hO17.1
    have xO0 := hO17.cell 0 _ rfl
    have xO1 := hO17.cell 1 _ rfl
    have xO2 := hO17.cell 2 _ rfl
    have xO3 := hO17.cell 3 _ rfl
    have xO4 := hO17.cell 4 _ rfl
    have xO5 := hO17.cell 5 _ rfl
    have lL := hL17.1
    have xL0 := hL17.cell 0 _ rfl
    have xL1 := hL17.cell 1 _ rfl
    have xL2 := hL17.cell 2 _ rfl
    have xL3 := hL17.cell 3 _ rfl
    have xL4 := hL17.cell 4 _ rfl
    have xL5 := hL17.cell 5 _ rfl
    go_wp2_with fail
    refine (lpen_any _ _ _).mono ?_
    rintro e w18 ⟨rfl, hb18⟩
    have hW18 := hW17.trans (hb18.mono hW17.size)
    clear lN xN0 xN1 xN2 xN3 xN4 xN5
    clear lO xO0 xO1 xO2 xO3 xO4 xO5
    clear lL xL0 xL1 xL2 xL3 xL4 xL5
    have hN18 := hN17.keep hb18
    have hO18 := hO17.keep hb18
    have hL18 := hL17.keep hb18
    clear hb18 hW17 hN17 hO17 hL17
    have lN := hN18.1
    have xN0 := hN18.cell 0 _ rfl
    have xN1 := hN18.cell 1 _ rfl
    have xN2 := hN18.cell 2 _ rfl
    have xN3 := hN18.cell 3 _ rfl
    have xN4 := hN18.cell 4 _ rfl
    have xN5 := hN18.cell 5 _ rfl
    have lO := hO18.1
    have xO0 := hO18.cell 0 _ rfl
    have xO1 := hO18.cell 1 _ rfl
    have xO2 := hO18.cell 2 _ rfl
    have xO3 := hO18.cell 3 _ rfl
    have xO4 := hO18.cell 4 _ rfl
    have xO5 := hO18.cell 5 _ rfl
    have lL := hL18.1
    have xL0 := hL18.cell 0 _ rfl
    have xL1 := hL18.cell 1 _ rfl
    have xL2 := hL18.cell 2 _ rfl
    have xL3 := hL18.cell 3 _ rfl
    have xL4 := hL18.cell 4 _ rfl
    have xL5 := hL18.cell 5 _ rfl
    go_wp2_with fail
    refine (checkPen_is ⟨39, 0, 1, 0, 0, ⟨#[]⟩⟩ 141 (by decide +kernel) _ ((H.out).keep hW18)).mono ?_
    rintro e w19 ⟨rfl, hb19⟩
    have hW19 := hW18.trans (hb19.mono hW18.size)
    clear lN xN0 xN1 xN2 xN3 xN4 xN5
    clear lO xO0 xO1 xO2 xO3 xO4 xO5
    clear lL xL0 xL1 xL2 xL3 xL4 xL5
    have hN19 := hN18.keep hb19
    have hO19 := hO18.keep hb19
    have hL19 := hL18.keep hb19
    clear hb19 hW18 hN18 hO18 hL18
    have lN := hN19.1
    have xN0 := hN19.cell 0 _ rfl
    have xN1 := hN19.cell 1 _ rfl
    have xN2 := hN19.cell 2 _ rfl
    have xN3 := hN19.cell 3 _ rfl
    have xN4 := hN19.cell 4 _ rfl
    have xN5 := hN19.cell 5 _ rfl
    have lO := hO19.1
    have xO0 := hO19.cell 0 _ rfl
    have xO1 := hO19.cell 1 _ rfl
    have xO2 := hO19.cell 2 _ rfl
    have xO3 := hO19.cell 3 _ rfl
    have xO4 := hO19.cell 4 _ rfl
    have xO5 := hO19.cell 5 _ rfl
    have lL := hL19.1
    have xL0 := hL19.cell 0 _ rfl
    have xL1 := hL19.cell 1 _ rfl
    have xL2 := hL19.cell 2 _ rfl
    have xL3 := hL19.cell 3 _ rfl
    have xL4 := hL19.cell 4 _ rfl
    have xL5 := hL19.cell 5 _ rfl
    go_wp2_with fail
    refine (lpen_any _ _ _).mono ?_
    rintro e w20 ⟨rfl, hb20⟩
    have hW20 := hW19.trans (hb20.mono hW19.size)
    clear lN xN0 xN1 xN2 xN3 xN4 xN5
    clear lO xO0 xO1 xO2 xO3 xO4 xO5
    clear lL xL0 xL1 xL2 xL3 xL4 xL5
    have hN20 := hN19.keep hb20
    have hO20 := hO19.keep hb20
    have hL20 := hL19.keep hb20
    clear hb20 hW19 hN19 hO19 hL19
    have lN := hN20.1
    have xN0 := hN20.cell 0 _ rfl
    have xN1 := hN20.cell 1 _ rfl
    have xN2 := hN20.cell 2 _ rfl
    have xN3 := hN20.cell 3 _ rfl
    have xN4 := hN20.cell 4 _ rfl
    have xN5 := hN20.cell 5 _ rfl
    have lO := hO20.1
    have xO0 := hO20.cell 0 _ rfl
    have xO1 := hO20.cell 1 _ rfl
    have xO2 := hO20.cell 2 _ rfl
    have xO3 := hO20.cell 3 _ rfl
    have xO4 := hO20.cell 4 _ rfl
    have xO5 := hO20.cell 5 _ rfl
    have lL := hL20.1
    have xL0 := hL20.cell 0 _ rfl
    have xL1 := hL20.cell 1 _ rfl
    have xL2 := hL20.cell 2 _ rfl
    have xL3 := hL20.cell 3 _ rfl
    have xL4 := hL20.cell 4 _ rfl
    have xL5 := hL20.cell 5 _ rfl
    go_wp2_with fail
    refine (checkPen_is ⟨39, 1, 0, 0, 0, ⟨#[]⟩⟩ 141 (by decide +kernel) _ ((H.out).keep hW20)).mono ?_
    rintro e w21 ⟨rfl, hb21⟩
    have hW21 := hW20.trans (hb21.mono hW20.size)
    clear lN xN0 xN1 xN2 xN3 xN4 xN5
    clear lO xO0 xO1 xO2 xO3 xO4 xO5
    clear lL xL0 xL1 xL2 xL3 xL4 xL5
    have hN21 := hN20.keep hb21
    have hO21 := hO20.keep hb21
    have hL21 := hL20.keep hb21
    clear hb21 hW20 hN20 hO20 hL20
    have lN := hN21.1
    have xN0 := hN21.cell 0 _ rfl
    have xN1 := hN21.cell 1 _ rfl
    have xN2 := hN21.cell 2 _ rfl
    have xN3 := hN21.cell 3 _ rfl
    have xN4 := hN21.cell 4 _ rfl
    have xN5 := hN21.cell 5 _ rfl
    have lO := hO21.1
    have xO0 := hO21.cell 0 _ rfl
    have xO1 := hO21.cell 1 _ rfl
    have xO2 := hO21.cell 2 _ rfl
    have xO3 := hO21.cell 3 _ rfl
    have xO4 := hO21.cell 4 _ rfl
    have xO5 := hO21.cell 5 _ rfl
    have lL := hL21.1
    have xL0 := hL21.cell 0 _ rfl
    have xL1 := hL21.cell 1 _ rfl
    have xL2 := hL21.cell 2 _ rfl
    have xL3 := hL21.cell 3 _ rfl
    have xL4 := hL21.cell 4 _ rfl
    have xL5 := hL21.cell 5 _ rfl
    go_wp2_with fail
    refine (lpen_any _ _ _).mono ?_
    rintro e w22 ⟨rfl, hb22⟩
    have hW22 := hW21.trans (hb22.mono hW21.size)
    clear lN xN0 xN1 xN2 xN3 xN4 xN5
    clear lO xO0 xO1 xO2 xO3 xO4 xO5
    clear lL xL0 xL1 xL2 xL3 xL4 xL5
    have hN22 := hN21.keep hb22
    have hO22 := hO21.keep hb22
    have hL22 := hL21.keep hb22
    clear hb22 hW21 hN21 hO21 hL21
    have lN := hN22.1
    have xN0 := hN22.cell 0 _ rfl
    have xN1 := hN22.cell 1 _ rfl
    have xN2 := hN22.cell 2 _ rfl
    have xN3 := hN22.cell 3 _ rfl
    have xN4 := hN22.cell 4 _ rfl
    have xN5 := hN22.cell 5 _ rfl
    have lO := hO22.1
    have xO0 := hO22.cell 0 _ rfl
    have xO1 := hO22.cell 1 _ rfl
    have xO2 := hO22.cell 2 _ rfl
    have xO3 := hO22.cell 3 _ rfl
    have xO4 := hO22.cell 4 _ rfl
    have xO5 := hO22.cell 5 _ rfl
    have lL := hL22.1
    have xL0 := hL22.cell 0 _ rfl
    have xL1 := hL22.cell 1 _ rfl
    have xL2 := hL22.cell 2 _ rfl
    have xL3 := hL22.cell 3 _ rfl
    have xL4 := hL22.cell 4 _ rfl
    have xL5 := hL22.cell 5 _ rfl
    go_wp2_with fail
    refine (checkPen_is ⟨39, 1, 128, 0, 0, ⟨#[]⟩⟩ 0 (by decide +kernel) _ ((H.out).keep hW22)).mono ?_
    rintro e w23 ⟨rfl, hb23⟩
    have hW23 := hW22.trans (hb23.mono hW22.size)
    clear lN xN0 xN1 xN2 xN3 xN4 xN5
    clear lO xO0 xO1 xO2 xO3 xO4 xO5
    clear lL xL0 xL1 xL2 xL3 xL4 xL5
    have hN23 := hN22.keep hb23
    have hO23 := hO22.keep hb23
    have hL23 := hL22.keep hb23
    clear hb23 hW22 hN22 hO22 hL22
    have lN := hN23.1
    have xN0 := hN23.cell 0 _ rfl
    have xN1 := hN23.cell 1 _ rfl
    have xN2 := hN23.cell 2 _ rfl
    have xN3 := hN23.cell 3 _ rfl
    have xN4 := hN23.cell 4 _ rfl
    have xN5 := hN23.cell 5 _ rfl
    have lO := hO23.1
    have xO0 := hO23.cell 0 _ rfl
    have xO1 := hO23.cell 1 _ rfl
    have xO2 := hO23.cell 2 _ rfl
    have xO3 := hO23.cell 3 _ rfl
    have xO4 := hO23.cell 4 _ rfl
    have xO5 := hO23.cell 5 _ rfl
    have lL := hL23.1
    have xL0 := hL23.cell 0 _ rfl
    have xL1 := hL23.cell 1 _ rfl
    have xL2 := hL23.cell 2 _ rfl
    have xL3 := hL23.cell 3 _ rfl
    have xL4 := hL23.cell 4 _ rfl
    have xL5 := hL23.cell 5 _ rfl
    go_wp2_with fail
    refine (lpen_any _ _ _).mono ?_
    rintro e w24 ⟨rfl, hb24⟩
    have hW24 := hW23.trans (hb24.mono hW23.size)
    clear lN xN0 xN1 xN2 xN3 xN4 xN5
    clear lO xO0 xO1 xO2 xO3 xO4 xO5
    clear lL xL0 xL1 xL2 xL3 xL4 xL5
    have hN24 := hN23.keep hb24
    have hO24 := hO23.keep hb24
    have hL24 := hL23.keep hb24
    clear hb24 hW23 hN23 hO23 hL23
    have lN := hN24.1
    have xN0 := hN24.cell 0 _ rfl
    have xN1 := hN24.cell 1 _ rfl
    have xN2 := hN24.cell 2 _ rfl
    have xN3 := hN24.cell 3 _ rfl
    have xN4 := hN24.cell 4 _ rfl
    have xN5 := hN24.cell 5 _ rfl
    have lO := hO24.1
    have xO0 := hO24.cell 0 _ rfl
    have xO1 := hO24.cell 1 _ rfl
    have xO2 := hO24.cell 2 _ rfl
    have xO3 := hO24.cell 3 _ rfl
    have xO4 := hO24.cell 4 _ rfl
    have xO5 := hO24.cell 5 _ rfl
    have lL := hL24.1
    have xL0 := hL24.cell 0 _ rfl
    have xL1 := hL24.cell 1 _ rfl
    have xL2 := hL24.cell 2 _ rfl
    have xL3 := hL24.cell 3 _ rfl
    have xL4 := hL24.cell 4 _ rfl
    have xL5 := hL24.cell 5 _ rfl
    go_wp2_with fail
    refine (checkPen_is ⟨39, 1, 256, 0, 0, ⟨#[]⟩⟩ 141 (by decide +kernel) _ ((H.out).keep hW24)).mono ?_
    rintro e w25 ⟨rfl, hb25⟩
    have hW25 := hW24.trans (hb25.mono hW24.size)
    clear lN xN0 xN1 xN2 xN3 xN4 xN5
    clear lO xO0 xO1 xO2 xO3 xO4 xO5
    clear lL xL0 xL1 xL2 xL3 xL4 xL5
    have hN25 := hN24.keep hb25
    have hO25 := hO24.keep hb25
    have hL25 := hL24.keep hb25
    clear hb25 hW24 hN24 hO24 hL24
    have lN := hN25.1
    have xN0 := hN25.cell 0 _ rfl
    have xN1 := hN25.cell 1 _ rfl
    have xN2 := hN25.cell 2 _ rfl
    have xN3 := hN25.cell 3 _ rfl
    have xN4 := hN25.cell 4 _ rfl
    have xN5 := hN25.cell 5 _ rfl
    have lO := hO25.1
    have xO0 := hO25.cell 0 _ rfl
    have xO1 := hO25.cell 1 _ rfl
    have xO2 := hO25.cell 2 _ rfl
    have xO3 := hO25.cell 3 _ rfl
    have xO4 := hO25.cell 4 _ rfl
    have xO5 := hO25.cell 5 _ rfl
    have lL := hL25.1
    have xL0 := hL25.cell 0 _ rfl
    have xL1 := hL25.cell 1 _ rfl
    have xL2 := hL25.cell 2 _ rfl
    have xL3 := hL25.cell 3 _ rfl
    have xL4 := hL25.cell 4 _ rfl
    have xL5 := hL25.cell 5 _ rfl
    go_wp2_with fail
    refine (lpen_any _ _ _).mono ?_
    rintro e w26 ⟨rfl, hb26⟩
    have hW26 := hW25.trans (hb26.mono hW25.size)
    clear lN xN0 xN1 xN2 xN3 xN4 xN5
    clear lO xO0 xO1 xO2 xO3 xO4 xO5
    clear lL xL0 xL1 xL2 xL3 xL4 xL5
    have hN26 := hN25.keep hb26
    have hO26 := hO25.keep hb26
    have hL26 := hL25.keep hb26
    clear hb26 hW25 hN25 hO25 hL25
    have lN := hN26.1
    have xN0 := hN26.cell 0 _ rfl
    have xN1 := hN26.cell 1 _ rfl
    have xN2 := hN26.cell 2 _ rfl
    have xN3 := hN26.cell 3 _ rfl
    have xN4 := hN26.cell 4 _ rfl
    have xN5 := hN26.cell 5 _ rfl
    have lO := hO26.1
    have xO0 := hO26.cell 0 _ rfl
    have xO1 := hO26.cell 1 _ rfl
    have xO2 := hO26.cell 2 _ rfl
    have xO3 := hO26.cell 3 _ rfl
    have xO4 := hO26.cell 4 _ rfl
    have xO5 := hO26.cell 5 _ rfl
    have lL := hL26.1
    have xL0 := hL26.cell 0 _ rfl
    have xL1 := hL26.cell 1 _ rfl
    have xL2 := hL26.cell 2 _ rfl
    have xL3 := hL26.cell 3 _ rfl
    have xL4 := hL26.cell 4 _ rfl
    have xL5 := hL26.cell 5 _ rfl
    go_wp2_with fail
    refine (checkPen_is ⟨39, 2, 2, 0, 0, ⟨#[]⟩⟩ 141 (by decide +kernel) _ ((H.out).keep hW26)).mono ?_
    rintro e w27 ⟨rfl, hb27⟩
    have hW27 := hW26.trans (hb27.mono hW26.size)
    clear lN xN0 xN1 xN2 xN3 xN4 xN5
    clear lO xO0 xO1 xO2 xO3 xO4 xO5
    clear lL xL0 xL1 xL2 xL3 xL4 xL5
    have hN27 := hN26.keep hb27
    have hO27 := hO26.keep hb27
    have hL27 := hL26.keep hb27
    clear hb27 hW26 hN26 hO26 hL26
    have lN := hN27.1
    have xN0 := hN27.cell 0 _ rfl
    have xN1 := hN27.cell 1 _ rfl
    have xN2 := hN27.cell 2 _ rfl
    have xN3 := hN27.cell 3 _ rfl
    have xN4 := hN27.cell 4 _ rfl
    have xN5 := hN27.cell 5 _ rfl
    have lO := hO27.1
    have xO0 := hO27.cell 0 _ rfl
    have xO1 := hO27.cell 1 _ rfl
    have xO2 := hO27.cell 2 _ rfl
    have xO3 := hO27.cell 3 _ rfl
    have xO4 := hO27.cell 4 _ rfl
    have xO5 := hO27.cell 5 _ rfl
    have lL := hL27.1
    have xL0 := hL27.cell 0 _ rfl
    have xL1 := hL27.cell 1 _ rfl
    have xL2 := hL27.cell 2 _ rfl
    have xL3 := hL27.cell 3 _ rfl
    have xL4 := hL27.cell 4 _ rfl
    have xL5 := hL27.cell 5 _ rfl
    go_wp2_with fail
    refine (lpen_any _ _ _).mono ?_
    rintro e w28 ⟨rfl, hb28⟩
    have hW28 := hW27.trans (hb28.mono hW27.size)
    clear lN xN0 xN1 xN2 xN3 xN4 xN5
    clear lO xO0 xO1 xO2 xO3 xO4 xO5
    clear lL xL0 xL1 xL2 xL3 xL4 xL5
    have hN28 := hN27.keep hb28
    have hO28 := hO27.keep hb28
    have hL28 := hL27.keep hb28
    clear hb28 hW27 hN27 hO27 hL27
    have lN := hN28.1
    have xN0 := hN28.cell 0 _ rfl
    have xN1 := hN28.cell 1 _ rfl
    have xN2 := hN28.cell 2 _ rfl
    have xN3 := hN28.cell 3 _ rfl
    have xN4 := hN28.cell 4 _ rfl
    have xN5 := hN28.cell 5 _ rfl
    have lO := hO28.1
    have xO0 := hO28.cell 0 _ rfl
    have xO1 := hO28.cell 1 _ rfl
    have xO2 := hO28.cell 2 _ rfl
    have xO3 := hO28.cell 3 _ rfl
    have xO4 := hO28.cell 4 _ rfl
    have xO5 := hO28.cell 5 _ rfl
    have lL := hL28.1
    have xL0 := hL28.cell 0 _ rfl
    have xL1 := hL28.cell 1 _ rfl
    have xL2 := hL28.cell 2 _ rfl
    have xL3 := hL28.cell 3 _ rfl
    have xL4 := hL28.cell 4 _ rfl
    have xL5 := hL28.cell 5 _ rfl
    go_wp2_with fail
    refine (checkPen_is ⟨39, 2, 128, 0, 0, ⟨#[]⟩⟩ 0 (by decide +kernel) _ ((H.out).keep hW28)).mono ?_
    rintro e w29 ⟨rfl, hb29⟩
    have hW29 := hW28.trans (hb29.mono hW28.size)
    clear lN xN0 xN1 xN2 xN3 xN4 xN5
    clear lO xO0 xO1 xO2 xO3 xO4 xO5
    clear lL xL0 xL1 xL2 xL3 xL4 xL5
    have hN29 := hN28.keep hb29
    have hO29 := hO28.keep hb29
    have hL29 := hL28.keep hb29
    clear hb29 hW28 hN28 hO28 hL28
    have lN := hN29.1
    have xN0 := hN29.cell 0 _ rfl
    have xN1 := hN29.cell 1 _ rfl
    have xN2 := hN29.cell 2 _ rfl
    have xN3 := hN29.cell 3 _ rfl
    have xN4 := hN29.cell 4 _ rfl
    have xN5 := hN29.cell 5 _ rfl
    have lO := hO29.1
    have xO0 := hO29.cell 0 _ rfl
    have xO1 := hO29.cell 1 _ rfl
    have xO2 := hO29.cell 2 _ rfl
    have xO3 := hO29.cell 3 _ rfl
    have xO4 := hO29.cell 4 _ rfl
    have xO5 := hO29.cell 5 _ rfl
    have lL := hL29.1
    have xL0 := hL29.cell 0 _ rfl
    have xL1 := hL29.cell 1 _ rfl
    have xL2 := hL29.cell 2 _ rfl
    have xL3 := hL29.cell 3 _ rfl
    have xL4 := hL29.cell 4 _ rfl
    have xL5 := hL29.cell 5 _ rfl
    go_wp2_with fail
    refine (lpen_any _ _ _).mono ?_
    rintro e w30 ⟨rfl, hb30⟩
    have hW30 := hW29.trans (hb30.mono hW29.size)
    clear lN xN0 xN1 xN2 xN3 xN4 xN5
    clear lO xO0 xO1 xO2 xO3 xO4 xO5
    clear lL xL0 xL1 xL2 xL3 xL4 xL5
    have hN30 := hN29.keep hb30
    have hO30 := hO29.keep hb30
    have hL30 := hL29.keep hb30
    clear hb30 hW29 hN29 hO29 hL29
    have lN := hN30.1
    have xN0 := hN30.cell 0 _ rfl
    have xN1 := hN30.cell 1 _ rfl
    have xN2 := hN30.cell 2 _ rfl
    have xN3 := hN30.cell 3 _ rfl
    have xN4 := hN30.cell 4 _ rfl
    have xN5 := hN30.cell 5 _ rfl
    have lO := hO30.1
    have xO0 := hO30.cell 0 _ rfl
    have xO1 := hO30.cell 1 _ rfl
    have xO2 := hO30.cell 2 _ rfl
    have xO3 := hO30.cell 3 _ rfl
    have xO4 := hO30.cell 4 _ rfl
    have xO5 := hO30.cell 5 _ rfl
    have lL := hL30.1
    have xL0 := hL30.cell 0 _ rfl
    have xL1 := hL30.cell 1 _ rfl
    have xL2 := hL30.cell 2 _ rfl
    have xL3 := hL30.cell 3 _ rfl
    have xL4 := hL30.cell 4 _ rfl
    have xL5 := hL30.cell 5 _ rfl
    go_wp2_with fail
    refine (checkPen_is ⟨39, 3, (-1), 0, 0, ⟨#[]⟩⟩ 141 (by decide +kernel) _ ((H.out).keep hW30)).mono ?_
    rintro e w31 ⟨rfl, hb31⟩
    have hW31 := hW30.trans (hb31.mono hW30.size)
    clear lN xN0 xN1 xN2 xN3 xN4 xN5
    clear lO xO0 xO1 xO2 xO3 xO4 xO5
    clear lL xL0 xL1 xL2 xL3 xL4 xL5
    have hN31 := hN30.keep hb31
    have hO31 := hO30.keep hb31
    have hL31 := hL30.keep hb31
    clear hb31 hW30 hN30 hO30 hL30
    have lN := hN31.1
    have xN0 := hN31.cell 0 _ rfl
    have xN1 := hN31.cell 1 _ rfl
    have xN2 := hN31.cell 2 _ rfl
    have xN3 := hN31.cell 3 _ rfl
    have xN4 := hN31.cell 4 _ rfl
    have xN5 := hN31.cell 5 _ rfl
    have lO := hO31.1
    have xO0 := hO31.cell 0 _ rfl
    have xO1 := hO31.cell 1 _ rfl
    have xO2 := hO31.cell 2 _ rfl
    have xO3 := hO31.cell 3 _ rfl
    have xO4 := hO31.cell 4 _ rfl
    have xO5 := hO31.cell 5 _ rfl
    have lL := hL31.1
    have xL0 := hL31.cell 0 _ rfl
    have xL1 := hL31.cell 1 _ rfl
    have xL2 := hL31.cell 2 _ rfl
    have xL3 := hL31.cell 3 _ rfl
    have xL4 := hL31.cell 4 _ rfl
    have xL5 := hL31.cell 5 _ rfl
    go_wp2_with fail
    refine (checkPen_is ⟨1, 0, 0, 0, 0, ⟨#[]⟩⟩ 141 (by decide +kernel) _ ((H.out).keep hW31)).mono ?_
    rintro e w32 ⟨rfl, hb32⟩
    have hW32 := hW31.trans (hb32.mono hW31.size)
    clear lN xN0 xN1 xN2 xN3 xN4 xN5
    clear lO xO0 xO1 xO2 xO3 xO4 xO5
    clear lL xL0 xL1 xL2 xL3 xL4 xL5
    have hN32 := hN31.keep hb32
    have hO32 := hO31.keep hb32
    have hL32 := hL31.keep hb32
    clear hb32 hW31 hN31 hO31 hL31
    have lN := hN32.1
    have xN0 := hN32.cell 0 _ rfl
    have xN1 := hN32.cell 1 _ rfl
    have xN2 := hN32.cell 2 _ rfl
    have xN3 := hN32.cell 3 _ rfl
    have xN4 := hN32.cell 4 _ rfl
    have xN5 := hN32.cell 5 _ rfl
    have lO := hO32.1
    have xO0 := hO32.cell 0 _ rfl
    have xO1 := hO32.cell 1 _ rfl
    have xO2 := hO32.cell 2 _ rfl
    have xO3 := hO32.cell 3 _ rfl
    have xO4 := hO32.cell 4 _ rfl
    have xO5 := hO32.cell 5 _ rfl
    have lL := hL32.1
    have xL0 := hL32.cell 0 _ rfl
    have xL1 := hL32.cell 1 _ rfl
    have xL2 := hL32.cell 2 _ rfl
    have xL3 := hL32.cell 3 _ rfl
    have xL4 := hL32.cell 4 _ rfl
    have xL5 := hL32.cell 5 _ rfl
    go_wp2_with fail
    refine (checkPen_is ⟨39, 0, 0, 0, 0, ⟨#[]⟩⟩ 0 (by decide +kernel) _ ((H.out).keep hW32)).mono ?_
    rintro e w33 ⟨rfl, hb33⟩
    have hW33 := hW32.trans (hb33.mono hW32.size)
    clear lN xN0 xN1 xN2 xN3 xN4 xN5
    clear lO xO0 xO1 xO2 xO3 xO4 xO5
    clear lL xL0 xL1 xL2 xL3 xL4 xL5
    have hN33 := hN32.keep hb33
    have hO33 := hO32.keep hb33
    have hL33 := hL32.keep hb33
    clear hb33 hW32 hN32 hO32 hL32
    have lN := hN33.1
    have xN0 := hN33.cell 0 _ rfl
    have xN1 := hN33.cell 1 _ rfl
    have xN2 := hN33.cell 2 _ rfl
    have xN3 := hN33.cell 3 _ rfl
    have xN4 := hN33.cell 4 _ rfl
    have xN5 := hN33.cell 5 _ rfl
    have lO := hO33.1
    have xO0 := hO33.cell 0 _ rfl
    have xO1 := hO33.cell 1 _ rfl
    have xO2 := hO33.cell 2 _ rfl
    have xO3 := hO33.cell 3 _ rfl
    have xO4 := hO33.cell 4 _ rfl
    have xO5 := hO33.cell 5 _ rfl
    have lL := hL33.1
    have xL0 := hL33.cell 0 _ rfl
    have xL1 := hL33.cell 1 _ rfl
    have xL2 := hL33.cell 2 _ rfl
    have xL3 := hL33.cell 3 _ rfl
    have xL4 := hL33.cell 4 _ rfl
    have xL5 := hL33.cell 5 _ rfl
    go_wp2_with fail
    refine (apply_is ⟨-1, 0, 0, 0, 0, 0, 0, 0⟩ ⟨39, 4, 1, 0, 0, ⟨#[]⟩⟩ ⟨0, 0, 0, 0, 0, 0, 0, 0⟩ 140 (by decide +kernel) (by decide +kernel) _ ((H.out).keep hW33)).mono ?_
    rintro e w34 ⟨rfl, hb34⟩
    have hW34 := hW33.trans (hb34.mono hW33.size)
    clear lN xN0 xN1 xN2 xN3 xN4 xN5
    clear lO xO0 xO1 xO2 xO3 xO4 xO5
    clear lL xL0 xL1 xL2 xL3 xL4 xL5
    have hN34 := hN33.keep hb34
    have hO34 := hO33.keep hb34
    have hL34 := hL33.keep hb34
    clear hb34 hW33 hN33 hO33 hL33
    have lN := hN34.1
    have xN0 := hN34.cell 0 _ rfl
    have xN1 := hN34.cell 1 _ rfl
    have xN2 := hN34.cell 2 _ rfl
    have xN3 := hN34.cell 3 _ rfl
    have xN4 := hN34.cell 4 _ rfl
    have xN5 := hN34.cell 5 _ rfl
    have lO := hO34.1
    have xO0 := hO34.cell 0 _ rfl
    have xO1 := hO34.cell 1 _ rfl
    have xO2 := hO34.cell 2 _ rfl
    have xO3 := hO34.cell 3 _ rfl
    have xO4 := hO34.cell 4 _ rfl
    have xO5 := hO34.cell 5 _ rfl
    have lL := hL34.1
    have xL0 := hL34.cell 0 _ rfl
    have xL1 := hL34.cell 1 _ rfl
    have xL2 := hL34.cell 2 _ rfl
    have xL3 := hL34.cell 3 _ rfl
    have xL4 := hL34.cell 4 _ rfl
    have xL5 := hL34.cell 5 _ rfl
    go_wp2_with fail
    have hW35 := (hW34.alloc hW34.size (.cells #[.int .i64 0, .int .i64 0, .int .i64 0, .int .i64 0, .int .i64 0, .int .i64 0, .int .i64 0, .int .i64 0] 25)).alloc (hW34.alloc hW34.size (.cells #[.int .i64 0, .int .i64 0, .int .i64 0, .int .i64 0, .int .i64 0, .int .i64 0, .int .i64 0, .int .i64 0] 25)).size (.cells #[.int .i64 39, .int .i64 4, .int .i64 0, .int .i64 0, .int .i64 0, .string ⟨#[]⟩, .int .i64 39, .int .i64 4, .int .i64 1, .int .i64 0, .int .i64 0, .string ⟨#[]⟩] 27)
    have hR := RdP.lay (w34.alloc (.cells #[.int .i64 0, .int .i64 0, .int .i64 0, .int .i64 0, .int .i64 0, .int .i64 0, .int .i64 0, .int .i64 0] 25)) [⟨39, 4, 0, 0, 0, ⟨#[]⟩⟩, ⟨39, 4, 1, 0, 0, ⟨#[]⟩⟩] #[.int .i64 39, .int .i64 4, .int .i64 0, .int .i64 0, .int .i64 0, .string ⟨#[]⟩, .int .i64 39, .int .i64 4, .int .i64 1, .int .i64 0, .int .i64 0, .string ⟨#[]⟩] 27 rfl
    rw [show (w34.alloc (.cells #[.int .i64 0, .int .i64 0, .int .i64 0, .int .i64 0, .int .i64 0, .int .i64 0, .int .i64 0, .int .i64 0] 25)).heap.size = w34.heap.size + 1 by simp] at hR
    generalize (w34.alloc (.cells #[.int .i64 0, .int .i64 0, .int .i64 0, .int .i64 0, .int .i64 0, .int .i64 0, .int .i64 0, .int .i64 0] 25)).alloc (.cells #[.int .i64 39, .int .i64 4, .int .i64 0, .int .i64 0, .int .i64 0, .string ⟨#[]⟩, .int .i64 39, .int .i64 4, .int .i64 1, .int .i64 0, .int .i64 0, .string ⟨#[]⟩] 27) = w35 at hW35 hR ⊢
    clear lN xN0 xN1 xN2 xN3 xN4 xN5
    clear lO xO0 xO1 xO2 xO3 xO4 xO5
    clear lL xL0 xL1 xL2 xL3 xL4 xL5
    clear hW34 hN34 hO34 hL34
    refine (run_is ⟨1, 0, 0, 0, 0, 0, 0, 0⟩ _ [⟨39, 4, 0, 0, 0, ⟨#[]⟩⟩, ⟨39, 4, 1, 0, 0, ⟨#[]⟩⟩] 2 2 rfl ⟨0, 0, 0, 0, 0, 0, 0, 0⟩ 141 (by decide +kernel) (by decide +kernel) _ ((H.out).keep hW35) hR (by omega)).mono ?_
    rintro e w36 ⟨rfl, hb36⟩
    have hW36 := hW35.trans (hb36.mono hW35.size)
    clear hb36 hW35 hR
    go_wp2_with fail
    have hS36 : Box (w36.alloc (.cells #[.int .i64 0, .int .i64 0, .int .i64 0, .int .i64 0, .int .i64 0, .int .i64 0, .int .i64 0, .int .i64 0] 25)) w36.heap.size (cS z8) := Box.new _ _ _
    have hX36 := hW36.alloc hW36.size (.cells #[.int .i64 0, .int .i64 0, .int .i64 0, .int .i64 0, .int .i64 0, .int .i64 0, .int .i64 0, .int .i64 0] 25)
    generalize w36.alloc (.cells #[.int .i64 0, .int .i64 0, .int .i64 0, .int .i64 0, .int .i64 0, .int .i64 0, .int .i64 0, .int .i64 0] 25) = w37 at hS36 hX36 ⊢
    generalize w36.heap.size = T at hS36 ⊢
    refine (works_any _ ((H.out).keep hX36)).mono ?_
    rintro e w38 ⟨rfl, hb⟩
    have hY := hX36.trans (hb.mono hX36.size)
    have hT := hS36.keep hb
    clear hb hX36 hS36 hW36
    have lT := hT.1
    have t0 := hT.cell 0 _ rfl
    have t1 := hT.cell 1 _ rfl
    have t2 := hT.cell 2 _ rfl
    have t3 := hT.cell 3 _ rfl
    have t4 := hT.cell 4 _ rfl
    have t5 := hT.cell 5 _ rfl
    have t6 := hT.cell 6 _ rfl
    have t7 := hT.cell 7 _ rfl
    go_wp2_with fail
    refine (makes_yes ⟨7, 0, 0, 0, 0, 0, 0, 0⟩ ⟨7, 0, 0, 0, 0, 0, 0, 0⟩ none [] 0 0 rfl (by decide +kernel) (by decide +kernel) _ ((H.out).keep hY) (RdP.nil _ _) (by omega)).mono ?_
    rintro e w39 ⟨rfl, hb⟩
    have hF := Lib.hid (hY.trans (hb.mono hY.size))
    clear hb hY hT lT t0 t1 t2 t3 t4 t5 t6 t7
    go_wp2
    go_ret
    exact ⟨rfl, hF.out⟩
end Go.Proofs.YtokjjeekkfefmaaDoor.Sty
