/-
  Contract of the laws' works: the chapter's examples hold (it returns true).
-/
import Derived.Test.YtokjjeekkfefmaaDoorStyI
namespace Go.Proofs.YtokjjeekkfefmaaDoor.Sty
open Go.RowKit Utf Col

/-- the cells of a list of actions, as they lie side by side -/
def cPs (ps : List P6) : List Value := ps.flatMap cP
theorem cPs_at (ps : List P6) : ∀ j p, ps[j]? = some p → ∀ i v, (cP p)[i]? = some v → (cPs ps)[j * 6 + i]? = some v := by
  induction ps with
  | nil => intro j p hp; simp at hp
  | cons x r ih =>
    intro j p hp i v hv
    have hi : i < 6 := (List.getElem?_eq_some_iff.1 hv).1
    have hx : (cP x).length = 6 := rfl
    show (cP x ++ cPs r)[j * 6 + i]? = some v
    cases j with
    | zero =>
      cases hp
      rw [Nat.zero_mul, Nat.zero_add, List.getElem?_append_left (by rw [hx]; exact hi)]
      exact hv
    | succ j =>
      rw [List.getElem?_append_right (by rw [hx]; omega), hx, show (j + 1) * 6 + i - 6 = j * 6 + i by omega]
      exact ih j p (by simpa using hp) i v hv
theorem RdP.lay (w : World) (ps : List P6) (cs : Array Value) (t : TypeId) (h : cs = (cPs ps).toArray) : RdP (w.alloc (.cells cs t)) (some ⟨w.heap.size, 0, none⟩) ps := by
  subst h
  exact RdP.of (heap_alloc_new w _) ps fun j p hp i v hv => by simpa using cPs_at ps j p hp i v hv
theorem mk1 (A : Option Addr) (w : World) (h : Tl w) (hr : RdP w A [⟨39, 1, 1, 0, 0, ⟨#[]⟩⟩, ⟨39, 3, 3, 0, 0, ⟨#[]⟩⟩, ⟨39, 4, 0, 1, 1, ⟨#[]⟩⟩]) : Calls Tryd.prog 26 #[.agg #[.int .i64 0, .int .i64 0, .int .i64 0, .int .i64 0, .int .i64 0, .int .i64 0, .int .i64 0, .int .i64 0], .agg #[.int .i64 1, .int .i64 3, .int .i64 1, .int .i64 1, .int .i64 0, .int .i64 0, .int .i64 0, .int .i64 0], .slice A 3 3] w fun e w' => e = .returned (.bool true) ∧ Below w.heap.size w w' :=
  makes_yes ⟨0, 0, 0, 0, 0, 0, 0, 0⟩ ⟨1, 3, 1, 1, 0, 0, 0, 0⟩ A [⟨39, 1, 1, 0, 0, ⟨#[]⟩⟩, ⟨39, 3, 3, 0, 0, ⟨#[]⟩⟩, ⟨39, 4, 0, 1, 1, ⟨#[]⟩⟩] 3 3 rfl (by decide +kernel) (by decide +kernel) w h hr (by omega)
theorem mk2 (A : Option Addr) (w : World) (h : Tl w) (hr : RdP w A [⟨39, 2, 3, 0, 0, ⟨#[]⟩⟩]) : Calls Tryd.prog 26 #[.agg #[.int .i64 1, .int .i64 3, .int .i64 1, .int .i64 1, .int .i64 0, .int .i64 0, .int .i64 0, .int .i64 0], .agg #[.int .i64 0, .int .i64 3, .int .i64 1, .int .i64 1, .int .i64 0, .int .i64 0, .int .i64 0, .int .i64 0], .slice A 1 1] w fun e w' => e = .returned (.bool true) ∧ Below w.heap.size w w' :=
  makes_yes ⟨1, 3, 1, 1, 0, 0, 0, 0⟩ ⟨0, 3, 1, 1, 0, 0, 0, 0⟩ A [⟨39, 2, 3, 0, 0, ⟨#[]⟩⟩] 1 1 rfl (by decide +kernel) (by decide +kernel) w h hr (by omega)
theorem mk3 (A : Option Addr) (w : World) (h : Tl w) (hr : RdP w A [⟨39, 0, 0, 0, 0, ⟨#[]⟩⟩]) : Calls Tryd.prog 26 #[.agg #[.int .i64 0, .int .i64 3, .int .i64 1, .int .i64 1, .int .i64 0, .int .i64 0, .int .i64 0, .int .i64 0], .agg #[.int .i64 0, .int .i64 0, .int .i64 0, .int .i64 0, .int .i64 0, .int .i64 0, .int .i64 0, .int .i64 0], .slice A 1 1] w fun e w' => e = .returned (.bool true) ∧ Below w.heap.size w w' :=
  makes_yes ⟨0, 3, 1, 1, 0, 0, 0, 0⟩ ⟨0, 0, 0, 0, 0, 0, 0, 0⟩ A [⟨39, 0, 0, 0, 0, ⟨#[]⟩⟩] 1 1 rfl (by decide +kernel) (by decide +kernel) w h hr (by omega)
theorem checkPen_is (p : P6) (r : Int) (hr : errP p = r) (w : World) (h : Tl w) : Calls Tryd.prog 14 #[.agg #[.int .i64 p.k, .int .i64 p.n, .int .i64 p.m, .int .i64 p.c0, .int .i64 p.c1, .string p.t]] w fun e w' => e = .returned (.int .i64 r) ∧ Below w.heap.size w w' := by
  subst hr; exact checkPen_p p w h
theorem seen_is (a u f0 f1 b0 b1 l0 l1 x0 x1 y0 y1 : Int) (h : seen ⟨a, u, f0, f1, b0, b1, l0, l1⟩ = (x0, x1, y0, y1)) (w : World) : Calls Tryd.prog 21 #[.agg #[.int .i64 a, .int .i64 u, .int .i64 f0, .int .i64 f1, .int .i64 b0, .int .i64 b1, .int .i64 l0, .int .i64 l1]] w fun e w' =>
    e = .returned (.tuple #[.agg #[.int .i64 x0, .int .i64 x1], .agg #[.int .i64 y0, .int .i64 y1]]) ∧ Below w.heap.size w w' := by
  have := seen_any a u f0 f1 b0 b1 l0 l1 w
  rw [h] at this
  exact this

set_option maxRecDepth 100000 in
set_option maxHeartbeats 8000000 in
theorem works_any (w : World) (h : Tl w) : Calls Tryd.prog 16 #[] w fun e w' => e = .returned (.bool true) ∧ Below w.heap.size w w' := by
  have H := Lib.hid h; clear h
  go_enter Tryd.func16, Tryd.ntmps16
  go_wp2_with fail
  have hR0 : Box ((((w.alloc (.cells #[.int .i64 1, .int .i64 1] 23)).alloc (.cells #[.int .i64 1, .int .i64 2] 23)).alloc (.cells #[.int .i64 1, .int .i64 3, .int .i64 1, .int .i64 1, .int .i64 0, .int .i64 0, .int .i64 0, .int .i64 0] 25)).alloc (.cells #[.int .i64 0, .int .i64 3, .int .i64 1, .int .i64 1, .int .i64 0, .int .i64 0, .int .i64 0, .int .i64 0] 25)) w.heap.size [.int .i64 1, .int .i64 1] := (((Box.new _ _ _).alloc _).alloc _).alloc _
  have hG0 : Box ((((w.alloc (.cells #[.int .i64 1, .int .i64 1] 23)).alloc (.cells #[.int .i64 1, .int .i64 2] 23)).alloc (.cells #[.int .i64 1, .int .i64 3, .int .i64 1, .int .i64 1, .int .i64 0, .int .i64 0, .int .i64 0, .int .i64 0] 25)).alloc (.cells #[.int .i64 0, .int .i64 3, .int .i64 1, .int .i64 1, .int .i64 0, .int .i64 0, .int .i64 0, .int .i64 0] 25)) (w.heap.size + 1) [.int .i64 1, .int .i64 2] := ((Box.of (alloc1_at _ _ _)).alloc _).alloc _
  have hT0 : Box ((((w.alloc (.cells #[.int .i64 1, .int .i64 1] 23)).alloc (.cells #[.int .i64 1, .int .i64 2] 23)).alloc (.cells #[.int .i64 1, .int .i64 3, .int .i64 1, .int .i64 1, .int .i64 0, .int .i64 0, .int .i64 0, .int .i64 0] 25)).alloc (.cells #[.int .i64 0, .int .i64 3, .int .i64 1, .int .i64 1, .int .i64 0, .int .i64 0, .int .i64 0, .int .i64 0] 25)) (w.heap.size + 1 + 1) (cS ⟨1, 3, 1, 1, 0, 0, 0, 0⟩) := (Box.of (alloc2_at _ _ _ _)).alloc _
  have hU0 : Box ((((w.alloc (.cells #[.int .i64 1, .int .i64 1] 23)).alloc (.cells #[.int .i64 1, .int .i64 2] 23)).alloc (.cells #[.int .i64 1, .int .i64 3, .int .i64 1, .int .i64 1, .int .i64 0, .int .i64 0, .int .i64 0, .int .i64 0] 25)).alloc (.cells #[.int .i64 0, .int .i64 3, .int .i64 1, .int .i64 1, .int .i64 0, .int .i64 0, .int .i64 0, .int .i64 0] 25)) (w.heap.size + 1 + 1 + 1) (cS ⟨0, 3, 1, 1, 0, 0, 0, 0⟩) := Box.of (alloc3_at _ _ _ _ _)
  have hW0 : Below w.heap.size w ((((w.alloc (.cells #[.int .i64 1, .int .i64 1] 23)).alloc (.cells #[.int .i64 1, .int .i64 2] 23)).alloc (.cells #[.int .i64 1, .int .i64 3, .int .i64 1, .int .i64 1, .int .i64 0, .int .i64 0, .int .i64 0, .int .i64 0] 25)).alloc (.cells #[.int .i64 0, .int .i64 3, .int .i64 1, .int .i64 1, .int .i64 0, .int .i64 0, .int .i64 0, .int .i64 0] 25)) := (((below_box w _).alloc (by simp) _).alloc (by simp; omega) _).alloc (by simp; omega) _
  generalize (((w.alloc (.cells #[.int .i64 1, .int .i64 1] 23)).alloc (.cells #[.int .i64 1, .int .i64 2] 23)).alloc (.cells #[.int .i64 1, .int .i64 3, .int .i64 1, .int .i64 1, .int .i64 0, .int .i64 0, .int .i64 0, .int .i64 0] 25)).alloc (.cells #[.int .i64 0, .int .i64 3, .int .i64 1, .int .i64 1, .int .i64 0, .int .i64 0, .int .i64 0, .int .i64 0] 25) = w1 at hR0 hG0 hT0 hU0 hW0 ⊢
  generalize w.heap.size + 1 + 1 + 1 = U at hU0 ⊢
  generalize w.heap.size + 1 + 1 = T at hT0 ⊢
  have hG : Below w1.heap.size w1 w1.drew := (Below.refl _ w1).drew
  have HT := Lib.hid ((H.out).keep hW0)
  have hlT := hT0.1
  have hlU := hU0.1
  have x0 := hT0.cell 0 _ rfl
  have y0 := hU0.cell 0 _ rfl
  have x1 := hT0.cell 1 _ rfl
  have y1 := hU0.cell 1 _ rfl
  have x2 := hT0.cell 2 _ rfl
  have y2 := hU0.cell 2 _ rfl
  have x3 := hT0.cell 3 _ rfl
  have y3 := hU0.cell 3 _ rfl
  have x4 := hT0.cell 4 _ rfl
  have y4 := hU0.cell 4 _ rfl
  have x5 := hT0.cell 5 _ rfl
  have y5 := hU0.cell 5 _ rfl
  have x6 := hT0.cell 6 _ rfl
  have y6 := hU0.cell 6 _ rfl
  have x7 := hT0.cell 7 _ rfl
  have y7 := hU0.cell 7 _ rfl
  have HR := Lib.hid hR0; clear hR0
  have HGr := Lib.hid hG0; clear hG0
  clear hT0 hU0
  go_region_held3 (fun w' => w'.cell? ⟨T, 0, none⟩ = some (.int .i64 1) ∧ w'.cell? ⟨T, 1, none⟩ = some (.int .i64 3) ∧ w'.cell? ⟨T, 2, none⟩ = some (.int .i64 1) ∧ w'.cell? ⟨T, 3, none⟩ = some (.int .i64 1) ∧ w'.cell? ⟨T, 4, none⟩ = some (.int .i64 0) ∧ w'.cell? ⟨T, 5, none⟩ = some (.int .i64 0) ∧ w'.cell? ⟨T, 6, none⟩ = some (.int .i64 0) ∧ w'.cell? ⟨T, 7, none⟩ = some (.int .i64 0) ∧ w'.cell? ⟨U, 0, none⟩ = some (.int .i64 0) ∧ w'.cell? ⟨U, 1, none⟩ = some (.int .i64 3) ∧ w'.cell? ⟨U, 2, none⟩ = some (.int .i64 1) ∧ w'.cell? ⟨U, 3, none⟩ = some (.int .i64 1) ∧ w'.cell? ⟨U, 4, none⟩ = some (.int .i64 0) ∧ w'.cell? ⟨U, 5, none⟩ = some (.int .i64 0) ∧ w'.cell? ⟨U, 6, none⟩ = some (.int .i64 0) ∧ w'.cell? ⟨U, 7, none⟩ = some (.int .i64 0)) (first | exact ⟨by assumption, by assumption, by assumption, by assumption, by assumption, by assumption, by assumption, by assumption, by assumption, by assumption, by assumption, by assumption, by assumption, by assumption, by assumption, by assumption⟩ | go_keep) (first
    | (go_at_call 25; ((with_reducible refine (lpen_any _ _ _).mono ?_); (rintro e wA ⟨rfl, hbA⟩; have hG := hG.trans (hbA.mono hG.size); clear hbA; (try clear d0 d1 d2 d3 d4 d5 d6 d7 f0 f1 f2 f3 f4 f5 f6 f7); have d0 := (hG.cell (p := ⟨T, 0, none⟩) hlT).trans x0; have d1 := (hG.cell (p := ⟨T, 1, none⟩) hlT).trans x1; have d2 := (hG.cell (p := ⟨T, 2, none⟩) hlT).trans x2; have d3 := (hG.cell (p := ⟨T, 3, none⟩) hlT).trans x3; have d4 := (hG.cell (p := ⟨T, 4, none⟩) hlT).trans x4; have d5 := (hG.cell (p := ⟨T, 5, none⟩) hlT).trans x5; have d6 := (hG.cell (p := ⟨T, 6, none⟩) hlT).trans x6; have d7 := (hG.cell (p := ⟨T, 7, none⟩) hlT).trans x7; have f0 := (hG.cell (p := ⟨U, 0, none⟩) hlU).trans y0; have f1 := (hG.cell (p := ⟨U, 1, none⟩) hlU).trans y1; have f2 := (hG.cell (p := ⟨U, 2, none⟩) hlU).trans y2; have f3 := (hG.cell (p := ⟨U, 3, none⟩) hlU).trans y3; have f4 := (hG.cell (p := ⟨U, 4, none⟩) hlU).trans y4; have f5 := (hG.cell (p := ⟨U, 5, none⟩) hlU).trans y5; have f6 := (hG.cell (p := ⟨U, 6, none⟩) hlU).trans y6; have f7 := (hG.cell (p := ⟨U, 7, none⟩) hlU).trans y7; skip)))
    | (go_at_call 27; ((with_reducible refine (lfore_any _ _ _).mono ?_); (rintro e wA ⟨rfl, hbA⟩; have hG := hG.trans (hbA.mono hG.size); clear hbA; (try clear d0 d1 d2 d3 d4 d5 d6 d7 f0 f1 f2 f3 f4 f5 f6 f7); have d0 := (hG.cell (p := ⟨T, 0, none⟩) hlT).trans x0; have d1 := (hG.cell (p := ⟨T, 1, none⟩) hlT).trans x1; have d2 := (hG.cell (p := ⟨T, 2, none⟩) hlT).trans x2; have d3 := (hG.cell (p := ⟨T, 3, none⟩) hlT).trans x3; have d4 := (hG.cell (p := ⟨T, 4, none⟩) hlT).trans x4; have d5 := (hG.cell (p := ⟨T, 5, none⟩) hlT).trans x5; have d6 := (hG.cell (p := ⟨T, 6, none⟩) hlT).trans x6; have d7 := (hG.cell (p := ⟨T, 7, none⟩) hlT).trans x7; have f0 := (hG.cell (p := ⟨U, 0, none⟩) hlU).trans y0; have f1 := (hG.cell (p := ⟨U, 1, none⟩) hlU).trans y1; have f2 := (hG.cell (p := ⟨U, 2, none⟩) hlU).trans y2; have f3 := (hG.cell (p := ⟨U, 3, none⟩) hlU).trans y3; have f4 := (hG.cell (p := ⟨U, 4, none⟩) hlU).trans y4; have f5 := (hG.cell (p := ⟨U, 5, none⟩) hlU).trans y5; have f6 := (hG.cell (p := ⟨U, 6, none⟩) hlU).trans y6; have f7 := (hG.cell (p := ⟨U, 7, none⟩) hlU).trans y7; skip)))
    | (go_at_call 26; ((with_reducible refine (mk1 _ _ (by exact (HT.out).keep (hG.alloc hG.size _)) (by exact RdP.lay _ _ _ _ rfl)).mono ?_); (rintro e wA ⟨rfl, hbA⟩; have hG := (hG.alloc hG.size _).trans (hbA.mono (hG.alloc hG.size _).size); clear hbA; (try clear d0 d1 d2 d3 d4 d5 d6 d7 f0 f1 f2 f3 f4 f5 f6 f7); have d0 := (hG.cell (p := ⟨T, 0, none⟩) hlT).trans x0; have d1 := (hG.cell (p := ⟨T, 1, none⟩) hlT).trans x1; have d2 := (hG.cell (p := ⟨T, 2, none⟩) hlT).trans x2; have d3 := (hG.cell (p := ⟨T, 3, none⟩) hlT).trans x3; have d4 := (hG.cell (p := ⟨T, 4, none⟩) hlT).trans x4; have d5 := (hG.cell (p := ⟨T, 5, none⟩) hlT).trans x5; have d6 := (hG.cell (p := ⟨T, 6, none⟩) hlT).trans x6; have d7 := (hG.cell (p := ⟨T, 7, none⟩) hlT).trans x7; have f0 := (hG.cell (p := ⟨U, 0, none⟩) hlU).trans y0; have f1 := (hG.cell (p := ⟨U, 1, none⟩) hlU).trans y1; have f2 := (hG.cell (p := ⟨U, 2, none⟩) hlU).trans y2; have f3 := (hG.cell (p := ⟨U, 3, none⟩) hlU).trans y3; have f4 := (hG.cell (p := ⟨U, 4, none⟩) hlU).trans y4; have f5 := (hG.cell (p := ⟨U, 5, none⟩) hlU).trans y5; have f6 := (hG.cell (p := ⟨U, 6, none⟩) hlU).trans y6; have f7 := (hG.cell (p := ⟨U, 7, none⟩) hlU).trans y7; skip)))
    | (go_at_call 26; ((with_reducible refine (mk2 _ _ (by exact (HT.out).keep (hG.alloc hG.size _)) (by exact RdP.lay _ _ _ _ rfl)).mono ?_); (rintro e wA ⟨rfl, hbA⟩; have hG := (hG.alloc hG.size _).trans (hbA.mono (hG.alloc hG.size _).size); clear hbA; (try clear d0 d1 d2 d3 d4 d5 d6 d7 f0 f1 f2 f3 f4 f5 f6 f7); have d0 := (hG.cell (p := ⟨T, 0, none⟩) hlT).trans x0; have d1 := (hG.cell (p := ⟨T, 1, none⟩) hlT).trans x1; have d2 := (hG.cell (p := ⟨T, 2, none⟩) hlT).trans x2; have d3 := (hG.cell (p := ⟨T, 3, none⟩) hlT).trans x3; have d4 := (hG.cell (p := ⟨T, 4, none⟩) hlT).trans x4; have d5 := (hG.cell (p := ⟨T, 5, none⟩) hlT).trans x5; have d6 := (hG.cell (p := ⟨T, 6, none⟩) hlT).trans x6; have d7 := (hG.cell (p := ⟨T, 7, none⟩) hlT).trans x7; have f0 := (hG.cell (p := ⟨U, 0, none⟩) hlU).trans y0; have f1 := (hG.cell (p := ⟨U, 1, none⟩) hlU).trans y1; have f2 := (hG.cell (p := ⟨U, 2, none⟩) hlU).trans y2; have f3 := (hG.cell (p := ⟨U, 3, none⟩) hlU).trans y3; have f4 := (hG.cell (p := ⟨U, 4, none⟩) hlU).trans y4; have f5 := (hG.cell (p := ⟨U, 5, none⟩) hlU).trans y5; have f6 := (hG.cell (p := ⟨U, 6, none⟩) hlU).trans y6; have f7 := (hG.cell (p := ⟨U, 7, none⟩) hlU).trans y7; skip)))
    | (go_at_call 26; ((with_reducible refine (mk3 _ _ (by exact (HT.out).keep (hG.alloc hG.size _)) (by exact RdP.lay _ _ _ _ rfl)).mono ?_); (rintro e wA ⟨rfl, hbA⟩; have hG := (hG.alloc hG.size _).trans (hbA.mono (hG.alloc hG.size _).size); clear hbA; (try clear d0 d1 d2 d3 d4 d5 d6 d7 f0 f1 f2 f3 f4 f5 f6 f7); have d0 := (hG.cell (p := ⟨T, 0, none⟩) hlT).trans x0; have d1 := (hG.cell (p := ⟨T, 1, none⟩) hlT).trans x1; have d2 := (hG.cell (p := ⟨T, 2, none⟩) hlT).trans x2; have d3 := (hG.cell (p := ⟨T, 3, none⟩) hlT).trans x3; have d4 := (hG.cell (p := ⟨T, 4, none⟩) hlT).trans x4; have d5 := (hG.cell (p := ⟨T, 5, none⟩) hlT).trans x5; have d6 := (hG.cell (p := ⟨T, 6, none⟩) hlT).trans x6; have d7 := (hG.cell (p := ⟨T, 7, none⟩) hlT).trans x7; have f0 := (hG.cell (p := ⟨U, 0, none⟩) hlU).trans y0; have f1 := (hG.cell (p := ⟨U, 1, none⟩) hlU).trans y1; have f2 := (hG.cell (p := ⟨U, 2, none⟩) hlU).trans y2; have f3 := (hG.cell (p := ⟨U, 3, none⟩) hlU).trans y3; have f4 := (hG.cell (p := ⟨U, 4, none⟩) hlU).trans y4; have f5 := (hG.cell (p := ⟨U, 5, none⟩) hlU).trans y5; have f6 := (hG.cell (p := ⟨U, 6, none⟩) hlU).trans y6; have f7 := (hG.cell (p := ⟨U, 7, none⟩) hlU).trans y7; skip))))
  have hW2 := hW0.trans (hG.mono hW0.size)
  have hR2 := HR.out.keep hG
  have hG2 := HGr.out.keep hG
  clear hG hW0 HR HGr HT hlT hlU
  clear x0 y0 x1 y1 x2 y2 x3 y3 x4 y4 x5 y5 x6 y6 x7 y7
  rename_i wB
  clear wB
  (try clear d0 d1 d2 d3 d4 d5 d6 d7 f0 f1 f2 f3 f4 f5 f6 f7)
  go_wp2_with fail
  refine (lpen_any _ _ _).mono ?_
  rintro e w2 ⟨rfl, hb2⟩
  have hW3 := hW2.trans (hb2.mono hW2.size)
  have hR3 := hR2.keep hb2
  have hG3 := hG2.keep hb2
  clear hb2 hW2 hR2 hG2
  go_wp2_with fail
  have hO4 : Box (w2.alloc (.cells #[.int .i64 39, .int .i64 1, .int .i64 1, .int .i64 0, .int .i64 0, .string ⟨#[120]⟩] 27)) w2.heap.size (cP ⟨39, 1, 1, 0, 0, ⟨#[120]⟩⟩) := Box.new _ _ _
  have hW4 := hW3.alloc hW3.size (.cells #[.int .i64 39, .int .i64 1, .int .i64 1, .int .i64 0, .int .i64 0, .string ⟨#[120]⟩] 27)
  have hR4 := hR3.alloc (.cells #[.int .i64 39, .int .i64 1, .int .i64 1, .int .i64 0, .int .i64 0, .string ⟨#[120]⟩] 27)
  have hG4 := hG3.alloc (.cells #[.int .i64 39, .int .i64 1, .int .i64 1, .int .i64 0, .int .i64 0, .string ⟨#[120]⟩] 27)
  generalize w2.alloc (.cells #[.int .i64 39, .int .i64 1, .int .i64 1, .int .i64 0, .int .i64 0, .string ⟨#[120]⟩] 27) = w3 at hO4 hW4 hR4 hG4 ⊢
  generalize w2.heap.size = O at hO4 ⊢
  clear hW3 hR3 hG3
  have hG : Below w3.heap.size w3 w3.drew := (Below.refl _ w3).drew
  have hlO := hO4.1
  have x0 := hO4.cell 0 _ rfl
  have x1 := hO4.cell 1 _ rfl
  have x2 := hO4.cell 2 _ rfl
  have x3 := hO4.cell 3 _ rfl
  have x4 := hO4.cell 4 _ rfl
  have x5 := hO4.cell 5 _ rfl
  go_region_held3 (fun w' => w'.cell? ⟨O, 0, none⟩ = some (.int .i64 39) ∧ w'.cell? ⟨O, 1, none⟩ = some (.int .i64 1) ∧ w'.cell? ⟨O, 2, none⟩ = some (.int .i64 1) ∧ w'.cell? ⟨O, 3, none⟩ = some (.int .i64 0) ∧ w'.cell? ⟨O, 4, none⟩ = some (.int .i64 0) ∧ w'.cell? ⟨O, 5, none⟩ = some (.string ⟨#[120]⟩)) (first | exact ⟨by assumption, by assumption, by assumption, by assumption, by assumption, by assumption⟩ | go_keep) (first
    | (go_at_call 25; ((with_reducible refine (lpen_any _ _ _).mono ?_); (rintro e wA ⟨rfl, hbA⟩; have hG := hG.trans (hbA.mono hG.size); clear hbA; (try clear d0 d1 d2 d3 d4 d5); have d0 := (hG.cell (p := ⟨O, 0, none⟩) hlO).trans x0; have d1 := (hG.cell (p := ⟨O, 1, none⟩) hlO).trans x1; have d2 := (hG.cell (p := ⟨O, 2, none⟩) hlO).trans x2; have d3 := (hG.cell (p := ⟨O, 3, none⟩) hlO).trans x3; have d4 := (hG.cell (p := ⟨O, 4, none⟩) hlO).trans x4; have d5 := (hG.cell (p := ⟨O, 5, none⟩) hlO).trans x5; skip)))
    | (go_at_call 27; ((with_reducible refine (lfore_any _ _ _).mono ?_); (rintro e wA ⟨rfl, hbA⟩; have hG := hG.trans (hbA.mono hG.size); clear hbA; (try clear d0 d1 d2 d3 d4 d5); have d0 := (hG.cell (p := ⟨O, 0, none⟩) hlO).trans x0; have d1 := (hG.cell (p := ⟨O, 1, none⟩) hlO).trans x1; have d2 := (hG.cell (p := ⟨O, 2, none⟩) hlO).trans x2; have d3 := (hG.cell (p := ⟨O, 3, none⟩) hlO).trans x3; have d4 := (hG.cell (p := ⟨O, 4, none⟩) hlO).trans x4; have d5 := (hG.cell (p := ⟨O, 5, none⟩) hlO).trans x5; skip))))
  have hW5 := Lib.hid (hW4.trans (hG.mono hW4.size))
  have hR5 := Lib.hid (hR4.keep hG)
  have hG5 := Lib.hid (hG4.keep hG)
  clear hG hW4 hR4 hG4 hO4 hlO x0 x1 x2 x3 x4 x5
  (try clear d0 d1 d2 d3 d4 d5)
  go_wp2_with fail
  go_loopw [48] (fun i wr => ∃ k : Nat, k ≤ 5 ∧ i = .int .i64 k ∧ Hid (Below w.heap.size w wr ∧ Box wr w.heap.size [.int .i64 1, .int .i64 1] ∧ Box wr (w.heap.size + 1) [.int .i64 1, .int .i64 2])) (fun i _ => 5 - (intOf i).toNat)
  case atStart => exact ⟨0, by omega, rfl, Lib.hid ⟨hW5.out, hR5.out, hG5.out⟩⟩
  case round =>
    clear hW5 hR5 hG5
    obtain ⟨k, hk, rfl, hid⟩ := hrel
    obtain ⟨h0, hR, hGr⟩ := hid.out
    clear hid
    rcases (show k = 0 ∨ k = 1 ∨ k = 2 ∨ k = 3 ∨ k = 4 ∨ k = 5 by omega) with rfl | rfl | rfl | rfl | rfl | rfl
    · rw [show (((0 : Nat)) : Int) = 0 from rfl]
      have x0 : ∀ W, (Instr.index 64 (.agg #[.int .i64 39, .int .i64 1, .int .i64 3, .int .i64 0, .int .i64 0, .string ⟨#[]⟩, .int .i64 39, .int .i64 2, .int .i64 1, .int .i64 0, .int .i64 0, .string ⟨#[]⟩, .int .i64 39, .int .i64 3, .int .i64 6, .int .i64 0, .int .i64 0, .string ⟨#[]⟩, .int .i64 39, .int .i64 4, .int .i64 0, .int .i64 1, .int .i64 256, .string ⟨#[]⟩, .int .i64 39, .int .i64 1, .int .i64 1, .int .i64 0, .int .i64 0, .string ⟨#[120]⟩]) (.int .i64 0)).run Tryd.prog W = .ok (.agg #[.int .i64 39, .int .i64 1, .int .i64 3, .int .i64 0, .int .i64 0, .string ⟨#[]⟩]) W := fun _ => by kernel_rfl
      go_wp2_with fail
      have h1 := h0.alloc h0.size (.cells #[.int .i64 39, .int .i64 1, .int .i64 3, .int .i64 0, .int .i64 0, .string ⟨#[]⟩] 27)
      have hR1 := hR.alloc (.cells #[.int .i64 39, .int .i64 1, .int .i64 3, .int .i64 0, .int .i64 0, .string ⟨#[]⟩] 27)
      have hGr1 := hGr.alloc (.cells #[.int .i64 39, .int .i64 1, .int .i64 3, .int .i64 0, .int .i64 0, .string ⟨#[]⟩] 27)
      generalize wr.alloc (.cells #[.int .i64 39, .int .i64 1, .int .i64 3, .int .i64 0, .int .i64 0, .string ⟨#[]⟩] 27) = w6 at h1 hR1 hGr1 ⊢
      clear h0 hR hGr x0
      refine (checkPen_is ⟨39, 1, 3, 0, 0, ⟨#[]⟩⟩ 141 (by decide +kernel) _ ((H.out).keep h1)).mono ?_
      rintro e w7 ⟨rfl, hb7⟩
      have h2 := Lib.hid (h1.trans (hb7.mono h1.size))
      have hR2 := Lib.hid (hR1.keep hb7)
      have hGr2 := Lib.hid (hGr1.keep hb7)
      clear hb7 h1 hR1 hGr1
      go_wp2
      go_roundw
      case rel => exact ⟨1, by omega, rfl, Lib.hid ⟨h2.out, hR2.out, hGr2.out⟩⟩
      case measure => simp [intOf]
    · rw [show (((1 : Nat)) : Int) = 1 from rfl]
      have x0 : ∀ W, (Instr.index 64 (.agg #[.int .i64 39, .int .i64 1, .int .i64 3, .int .i64 0, .int .i64 0, .string ⟨#[]⟩, .int .i64 39, .int .i64 2, .int .i64 1, .int .i64 0, .int .i64 0, .string ⟨#[]⟩, .int .i64 39, .int .i64 3, .int .i64 6, .int .i64 0, .int .i64 0, .string ⟨#[]⟩, .int .i64 39, .int .i64 4, .int .i64 0, .int .i64 1, .int .i64 256, .string ⟨#[]⟩, .int .i64 39, .int .i64 1, .int .i64 1, .int .i64 0, .int .i64 0, .string ⟨#[120]⟩]) (.int .i64 1)).run Tryd.prog W = .ok (.agg #[.int .i64 39, .int .i64 2, .int .i64 1, .int .i64 0, .int .i64 0, .string ⟨#[]⟩]) W := fun _ => by kernel_rfl
      go_wp2_with fail
      have h1 := h0.alloc h0.size (.cells #[.int .i64 39, .int .i64 2, .int .i64 1, .int .i64 0, .int .i64 0, .string ⟨#[]⟩] 27)
      have hR1 := hR.alloc (.cells #[.int .i64 39, .int .i64 2, .int .i64 1, .int .i64 0, .int .i64 0, .string ⟨#[]⟩] 27)
      have hGr1 := hGr.alloc (.cells #[.int .i64 39, .int .i64 2, .int .i64 1, .int .i64 0, .int .i64 0, .string ⟨#[]⟩] 27)
      generalize wr.alloc (.cells #[.int .i64 39, .int .i64 2, .int .i64 1, .int .i64 0, .int .i64 0, .string ⟨#[]⟩] 27) = w6 at h1 hR1 hGr1 ⊢
      clear h0 hR hGr x0
      refine (checkPen_is ⟨39, 2, 1, 0, 0, ⟨#[]⟩⟩ 141 (by decide +kernel) _ ((H.out).keep h1)).mono ?_
      rintro e w7 ⟨rfl, hb7⟩
      have h2 := Lib.hid (h1.trans (hb7.mono h1.size))
      have hR2 := Lib.hid (hR1.keep hb7)
      have hGr2 := Lib.hid (hGr1.keep hb7)
      clear hb7 h1 hR1 hGr1
      go_wp2
      go_roundw
      case rel => exact ⟨2, by omega, rfl, Lib.hid ⟨h2.out, hR2.out, hGr2.out⟩⟩
      case measure => simp [intOf]
    · rw [show (((2 : Nat)) : Int) = 2 from rfl]
      have x0 : ∀ W, (Instr.index 64 (.agg #[.int .i64 39, .int .i64 1, .int .i64 3, .int .i64 0, .int .i64 0, .string ⟨#[]⟩, .int .i64 39, .int .i64 2, .int .i64 1, .int .i64 0, .int .i64 0, .string ⟨#[]⟩, .int .i64 39, .int .i64 3, .int .i64 6, .int .i64 0, .int .i64 0, .string ⟨#[]⟩, .int .i64 39, .int .i64 4, .int .i64 0, .int .i64 1, .int .i64 256, .string ⟨#[]⟩, .int .i64 39, .int .i64 1, .int .i64 1, .int .i64 0, .int .i64 0, .string ⟨#[120]⟩]) (.int .i64 2)).run Tryd.prog W = .ok (.agg #[.int .i64 39, .int .i64 3, .int .i64 6, .int .i64 0, .int .i64 0, .string ⟨#[]⟩]) W := fun _ => by kernel_rfl
      go_wp2_with fail
      have h1 := h0.alloc h0.size (.cells #[.int .i64 39, .int .i64 3, .int .i64 6, .int .i64 0, .int .i64 0, .string ⟨#[]⟩] 27)
      have hR1 := hR.alloc (.cells #[.int .i64 39, .int .i64 3, .int .i64 6, .int .i64 0, .int .i64 0, .string ⟨#[]⟩] 27)
      have hGr1 := hGr.alloc (.cells #[.int .i64 39, .int .i64 3, .int .i64 6, .int .i64 0, .int .i64 0, .string ⟨#[]⟩] 27)
      generalize wr.alloc (.cells #[.int .i64 39, .int .i64 3, .int .i64 6, .int .i64 0, .int .i64 0, .string ⟨#[]⟩] 27) = w6 at h1 hR1 hGr1 ⊢
      clear h0 hR hGr x0
      refine (checkPen_is ⟨39, 3, 6, 0, 0, ⟨#[]⟩⟩ 141 (by decide +kernel) _ ((H.out).keep h1)).mono ?_
      rintro e w7 ⟨rfl, hb7⟩
      have h2 := Lib.hid (h1.trans (hb7.mono h1.size))
      have hR2 := Lib.hid (hR1.keep hb7)
      have hGr2 := Lib.hid (hGr1.keep hb7)
      clear hb7 h1 hR1 hGr1
      go_wp2
      go_roundw
      case rel => exact ⟨3, by omega, rfl, Lib.hid ⟨h2.out, hR2.out, hGr2.out⟩⟩
      case measure => simp [intOf]
    · rw [show (((3 : Nat)) : Int) = 3 from rfl]
      have x0 : ∀ W, (Instr.index 64 (.agg #[.int .i64 39, .int .i64 1, .int .i64 3, .int .i64 0, .int .i64 0, .string ⟨#[]⟩, .int .i64 39, .int .i64 2, .int .i64 1, .int .i64 0, .int .i64 0, .string ⟨#[]⟩, .int .i64 39, .int .i64 3, .int .i64 6, .int .i64 0, .int .i64 0, .string ⟨#[]⟩, .int .i64 39, .int .i64 4, .int .i64 0, .int .i64 1, .int .i64 256, .string ⟨#[]⟩, .int .i64 39, .int .i64 1, .int .i64 1, .int .i64 0, .int .i64 0, .string ⟨#[120]⟩]) (.int .i64 3)).run Tryd.prog W = .ok (.agg #[.int .i64 39, .int .i64 4, .int .i64 0, .int .i64 1, .int .i64 256, .string ⟨#[]⟩]) W := fun _ => by kernel_rfl
      go_wp2_with fail
      have h1 := h0.alloc h0.size (.cells #[.int .i64 39, .int .i64 4, .int .i64 0, .int .i64 1, .int .i64 256, .string ⟨#[]⟩] 27)
      have hR1 := hR.alloc (.cells #[.int .i64 39, .int .i64 4, .int .i64 0, .int .i64 1, .int .i64 256, .string ⟨#[]⟩] 27)
      have hGr1 := hGr.alloc (.cells #[.int .i64 39, .int .i64 4, .int .i64 0, .int .i64 1, .int .i64 256, .string ⟨#[]⟩] 27)
      generalize wr.alloc (.cells #[.int .i64 39, .int .i64 4, .int .i64 0, .int .i64 1, .int .i64 256, .string ⟨#[]⟩] 27) = w6 at h1 hR1 hGr1 ⊢
      clear h0 hR hGr x0
      refine (checkPen_is ⟨39, 4, 0, 1, 256, ⟨#[]⟩⟩ 141 (by decide +kernel) _ ((H.out).keep h1)).mono ?_
      rintro e w7 ⟨rfl, hb7⟩
      have h2 := Lib.hid (h1.trans (hb7.mono h1.size))
      have hR2 := Lib.hid (hR1.keep hb7)
      have hGr2 := Lib.hid (hGr1.keep hb7)
      clear hb7 h1 hR1 hGr1
      go_wp2
      go_roundw
      case rel => exact ⟨4, by omega, rfl, Lib.hid ⟨h2.out, hR2.out, hGr2.out⟩⟩
      case measure => simp [intOf]
    · rw [show (((4 : Nat)) : Int) = 4 from rfl]
      have x0 : ∀ W, (Instr.index 64 (.agg #[.int .i64 39, .int .i64 1, .int .i64 3, .int .i64 0, .int .i64 0, .string ⟨#[]⟩, .int .i64 39, .int .i64 2, .int .i64 1, .int .i64 0, .int .i64 0, .string ⟨#[]⟩, .int .i64 39, .int .i64 3, .int .i64 6, .int .i64 0, .int .i64 0, .string ⟨#[]⟩, .int .i64 39, .int .i64 4, .int .i64 0, .int .i64 1, .int .i64 256, .string ⟨#[]⟩, .int .i64 39, .int .i64 1, .int .i64 1, .int .i64 0, .int .i64 0, .string ⟨#[120]⟩]) (.int .i64 4)).run Tryd.prog W = .ok (.agg #[.int .i64 39, .int .i64 1, .int .i64 1, .int .i64 0, .int .i64 0, .string ⟨#[120]⟩]) W := fun _ => by kernel_rfl
      go_wp2_with fail
      have h1 := h0.alloc h0.size (.cells #[.int .i64 39, .int .i64 1, .int .i64 1, .int .i64 0, .int .i64 0, .string ⟨#[120]⟩] 27)
      have hR1 := hR.alloc (.cells #[.int .i64 39, .int .i64 1, .int .i64 1, .int .i64 0, .int .i64 0, .string ⟨#[120]⟩] 27)
      have hGr1 := hGr.alloc (.cells #[.int .i64 39, .int .i64 1, .int .i64 1, .int .i64 0, .int .i64 0, .string ⟨#[120]⟩] 27)
      generalize wr.alloc (.cells #[.int .i64 39, .int .i64 1, .int .i64 1, .int .i64 0, .int .i64 0, .string ⟨#[120]⟩] 27) = w6 at h1 hR1 hGr1 ⊢
      clear h0 hR hGr x0
      refine (checkPen_is ⟨39, 1, 1, 0, 0, ⟨#[120]⟩⟩ 141 (by decide +kernel) _ ((H.out).keep h1)).mono ?_
      rintro e w7 ⟨rfl, hb7⟩
      have h2 := Lib.hid (h1.trans (hb7.mono h1.size))
      have hR2 := Lib.hid (hR1.keep hb7)
      have hGr2 := Lib.hid (hGr1.keep hb7)
      clear hb7 h1 hR1 hGr1
      go_wp2
      go_roundw
      case rel => exact ⟨5, by omega, rfl, Lib.hid ⟨h2.out, hR2.out, hGr2.out⟩⟩
      case measure => simp [intOf]
    · rw [show (((5 : Nat)) : Int) = 5 from rfl]
      have hlR := hR.1
      have hlG := hGr.1
      have r0 := hR.cell 0 _ rfl
      have r1 := hR.cell 1 _ rfl
      have g0 := hGr.cell 0 _ rfl
      have g1 := hGr.cell 1 _ rfl
      go_wp2_with fail
      refine (seen_is 16 0 1 1 1 2 0 0 1 2 1 1 (by decide +kernel) _).mono ?_
      rintro e w8 ⟨rfl, hb8⟩
      have h8 := h0.trans (hb8.mono h0.size)
      have hR8 := hR.keep hb8
      have hGr8 := hGr.keep hb8
      clear hb8 h0 hR hGr r0 r1 g0 g1 hlR hlG
      have hlR := hR8.1
      have hlG := hGr8.1
      have r0 := hR8.cell 0 _ rfl
      have r1 := hR8.cell 1 _ rfl
      have g0 := hGr8.cell 0 _ rfl
      have g1 := hGr8.cell 1 _ rfl
      go_wp2_with fail
      have hA9 : Box ((w8.alloc (.cells #[.int .i64 1, .int .i64 2] 23)).alloc (.cells #[.int .i64 1, .int .i64 1] 23)) w8.heap.size [.int .i64 1, .int .i64 2] := (Box.new _ _ _).alloc _
      have hB9 : Box ((w8.alloc (.cells #[.int .i64 1, .int .i64 2] 23)).alloc (.cells #[.int .i64 1, .int .i64 1] 23)) (w8.heap.size + 1) [.int .i64 1, .int .i64 1] := Box.of (alloc1_at _ _ _)
      have hR9 := (hR8.alloc (.cells #[.int .i64 1, .int .i64 2] 23)).alloc (.cells #[.int .i64 1, .int .i64 1] 23)
      have hG9 := (hGr8.alloc (.cells #[.int .i64 1, .int .i64 2] 23)).alloc (.cells #[.int .i64 1, .int .i64 1] 23)
      have h9 := (h8.alloc h8.size (.cells #[.int .i64 1, .int .i64 2] 23)).alloc (h8.alloc h8.size (.cells #[.int .i64 1, .int .i64 2] 23)).size (.cells #[.int .i64 1, .int .i64 1] 23)
      generalize (w8.alloc (.cells #[.int .i64 1, .int .i64 2] 23)).alloc (.cells #[.int .i64 1, .int .i64 1] 23) = w9 at hA9 hB9 hR9 hG9 h9 ⊢
      generalize w8.heap.size + 1 = B at hB9 ⊢
      generalize w8.heap.size = A at hA9 ⊢
      clear h8 hR8 hGr8
      refine (seen_is 48 0 1 1 1 2 0 0 1 1 1 1 (by decide +kernel) _).mono ?_
      rintro e w10 ⟨rfl, hb10⟩
      have hX := Lib.hid (h9.trans (hb10.mono h9.size))
      have hA := hA9.keep hb10
      have hB := hB9.keep hb10
      have hR := hR9.keep hb10
      have hGr := hG9.keep hb10
      clear hb10 h9 hA9 hB9 hR9 hG9 r0 r1 g0 g1 hlR hlG
      have hlR := hR.1
      have hlG := hGr.1
      have hlA := hA.1
      have hlB := hB.1
      have r0 := hR.cell 0 _ rfl
      have r1 := hR.cell 1 _ rfl
      have g0 := hGr.cell 0 _ rfl
      have g1 := hGr.cell 1 _ rfl
      have p0 := hA.cell 0 _ rfl
      have p1 := hA.cell 1 _ rfl
      have q0 := hB.cell 0 _ rfl
      have q1 := hB.cell 1 _ rfl
      clear hA hB hR hGr
      go_wp2
      go_ret
      exact ⟨rfl, (hX.out.alloc hX.out.size _).alloc (hX.out.alloc hX.out.size _).size _⟩
end Go.Proofs.YtokjjeekkfefmaaDoor.Sty
