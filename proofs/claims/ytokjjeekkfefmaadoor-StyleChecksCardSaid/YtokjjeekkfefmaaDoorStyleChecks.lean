/-
  The walk of the law StyleChecks: it returns true, whatever its arguments; nothing that lay before the call has turned.
-/
import Derived.Test.YtokjjeekkfefmaaDoorStyS
import Derived.Test.YtokjjeekkfefmaaDoorStyleKnown
import Derived.Deep.DeepCutAuto
namespace Go.Proofs.YtokjjeekkfefmaaDoor.Sty
open Go.RowKit Utf Col

theorem four_far (w : World) (b c d : Nat) (u v x y : Value) {B : Nat} {cs : List Value} (h : Box w B cs) (h1 : B ≠ b) (h2 : B ≠ c) (h3 : B ≠ d) :
    Box ((((w.setCell ⟨b, 0, none⟩ u).setCell ⟨c, 1, none⟩ v).setCell ⟨d, 6, none⟩ x).setCell ⟨d, 7, none⟩ y) B cs :=
  (((h.grown (grown_set w b 0 u) (by simpa using h1)).grown (grown_set _ c 1 v) (by simpa using h2)).grown (grown_set _ d 6 x) (by simpa using h3)).grown (grown_set _ d 7 y) (by simpa using h3)
theorem four_below {w0 : World} (w : World) (b c d : Nat) (u v x y : Value) (h : Below w0.heap.size w0 w) (h1 : w0.heap.size ≤ b) (h2 : w0.heap.size ≤ c) (h3 : w0.heap.size ≤ d) :
    Below w0.heap.size w0 ((((w.setCell ⟨b, 0, none⟩ u).setCell ⟨c, 1, none⟩ v).setCell ⟨d, 6, none⟩ x).setCell ⟨d, 7, none⟩ y) :=
  have a1 := below_grown h (grown_set w b 0 u) h1 h.size
  have a2 := below_grown a1 (grown_set _ c 1 v) h2 a1.size
  have a3 := below_grown a2 (grown_set _ d 6 x) h3 a2.size
  below_grown a3 (grown_set _ d 7 y) h3 a3.size
theorem four_ones (w : World) (b c d : Nat) (o : S8) (n x y : Int) (h1 : b ≠ c) (h2 : b ≠ d) (h3 : c ≠ d) (hb : Box w b (cS o)) (hc : Box w c (cS o)) (hd : Box w d (cS o)) :
    Box ((((w.setCell ⟨b, 0, none⟩ (.int .i64 n)).setCell ⟨c, 1, none⟩ (.int .i64 n)).setCell ⟨d, 6, none⟩ (.int .i64 x)).setCell ⟨d, 7, none⟩ (.int .i64 y)) b (cS ⟨n, o.u, o.f0, o.f1, o.b0, o.b1, o.l0, o.l1⟩) ∧
    Box ((((w.setCell ⟨b, 0, none⟩ (.int .i64 n)).setCell ⟨c, 1, none⟩ (.int .i64 n)).setCell ⟨d, 6, none⟩ (.int .i64 x)).setCell ⟨d, 7, none⟩ (.int .i64 y)) c (cS ⟨o.a, n, o.f0, o.f1, o.b0, o.b1, o.l0, o.l1⟩) ∧
    Box ((((w.setCell ⟨b, 0, none⟩ (.int .i64 n)).setCell ⟨c, 1, none⟩ (.int .i64 n)).setCell ⟨d, 6, none⟩ (.int .i64 x)).setCell ⟨d, 7, none⟩ (.int .i64 y)) d (cS ⟨o.a, o.u, o.f0, o.f1, o.b0, o.b1, x, y⟩) := by
  refine ⟨?_, ?_, ?_⟩
  · exact (((hb.set 0 (.int .i64 n)).grown (grown_set _ c 1 _) (by simpa using h1)).grown (grown_set _ d 6 _) (by simpa using h2)).grown (grown_set _ d 7 _) (by simpa using h2)
  · exact ((((hc.grown (grown_set _ b 0 _) (by simpa using h1.symm))).set 1 (.int .i64 n)).grown (grown_set _ d 6 _) (by simpa using h3)).grown (grown_set _ d 7 _) (by simpa using h3)
  · exact (((hd.grown (grown_set _ b 0 _) (by simpa using h2.symm)).grown (grown_set _ c 1 _) (by simpa using h3.symm)).set 6 (.int .i64 x)).set 7 (.int .i64 y)
theorem rcheck_is (s : S8) (r : Int) (hr : errS s = r) (w : World) : Calls Tryd.prog 13 #[.agg #[.int .i64 s.a, .int .i64 s.u, .int .i64 s.f0, .int .i64 s.f1, .int .i64 s.b0, .int .i64 s.b1, .int .i64 s.l0, .int .i64 s.l1]] w fun e w' => e = .returned (.int .i64 r) ∧ Below w.heap.size w w' := by
  subst hr; exact rcheck_any s.a s.u s.f0 s.f1 s.b0 s.b1 s.l0 s.l1 w
theorem ix6 (a b c d e f : S8) (k : Nat) (hk : k < 6) : ∃ x : S8, ∀ W, (Instr.index 34 (.agg #[.int .i64 a.a, .int .i64 a.u, .int .i64 a.f0, .int .i64 a.f1, .int .i64 a.b0, .int .i64 a.b1, .int .i64 a.l0, .int .i64 a.l1, .int .i64 b.a, .int .i64 b.u, .int .i64 b.f0, .int .i64 b.f1, .int .i64 b.b0, .int .i64 b.b1, .int .i64 b.l0, .int .i64 b.l1, .int .i64 c.a, .int .i64 c.u, .int .i64 c.f0, .int .i64 c.f1, .int .i64 c.b0, .int .i64 c.b1, .int .i64 c.l0, .int .i64 c.l1, .int .i64 d.a, .int .i64 d.u, .int .i64 d.f0, .int .i64 d.f1, .int .i64 d.b0, .int .i64 d.b1, .int .i64 d.l0, .int .i64 d.l1, .int .i64 e.a, .int .i64 e.u, .int .i64 e.f0, .int .i64 e.f1, .int .i64 e.b0, .int .i64 e.b1, .int .i64 e.l0, .int .i64 e.l1, .int .i64 f.a, .int .i64 f.u, .int .i64 f.f0, .int .i64 f.f1, .int .i64 f.b0, .int .i64 f.b1, .int .i64 f.l0, .int .i64 f.l1]) (.int .i64 (k : Int))).run Tryd.prog W = .ok (.agg #[.int .i64 x.a, .int .i64 x.u, .int .i64 x.f0, .int .i64 x.f1, .int .i64 x.b0, .int .i64 x.b1, .int .i64 x.l0, .int .i64 x.l1]) W := by
  rcases (show k = 0 ∨ k = 1 ∨ k = 2 ∨ k = 3 ∨ k = 4 ∨ k = 5 by omega) with rfl | rfl | rfl | rfl | rfl | rfl
  · exact ⟨a, fun _ => by kernel_rfl⟩
  · exact ⟨b, fun _ => by kernel_rfl⟩
  · exact ⟨c, fun _ => by kernel_rfl⟩
  · exact ⟨d, fun _ => by kernel_rfl⟩
  · exact ⟨e, fun _ => by kernel_rfl⟩
  · exact ⟨f, fun _ => by kernel_rfl⟩
theorem ix7 (a b c d e f g : P6) (k : Nat) (hk : k < 7) : ∃ x : P6, ∀ W, (Instr.index 38 (.agg #[.int .i64 a.k, .int .i64 a.n, .int .i64 a.m, .int .i64 a.c0, .int .i64 a.c1, .string a.t, .int .i64 b.k, .int .i64 b.n, .int .i64 b.m, .int .i64 b.c0, .int .i64 b.c1, .string b.t, .int .i64 c.k, .int .i64 c.n, .int .i64 c.m, .int .i64 c.c0, .int .i64 c.c1, .string c.t, .int .i64 d.k, .int .i64 d.n, .int .i64 d.m, .int .i64 d.c0, .int .i64 d.c1, .string d.t, .int .i64 e.k, .int .i64 e.n, .int .i64 e.m, .int .i64 e.c0, .int .i64 e.c1, .string e.t, .int .i64 f.k, .int .i64 f.n, .int .i64 f.m, .int .i64 f.c0, .int .i64 f.c1, .string f.t, .int .i64 g.k, .int .i64 g.n, .int .i64 g.m, .int .i64 g.c0, .int .i64 g.c1, .string g.t]) (.int .i64 (k : Int))).run Tryd.prog W = .ok (.agg #[.int .i64 x.k, .int .i64 x.n, .int .i64 x.m, .int .i64 x.c0, .int .i64 x.c1, .string x.t]) W := by
  rcases (show k = 0 ∨ k = 1 ∨ k = 2 ∨ k = 3 ∨ k = 4 ∨ k = 5 ∨ k = 6 by omega) with rfl | rfl | rfl | rfl | rfl | rfl | rfl
  · exact ⟨a, fun _ => by kernel_rfl⟩
  · exact ⟨b, fun _ => by kernel_rfl⟩
  · exact ⟨c, fun _ => by kernel_rfl⟩
  · exact ⟨d, fun _ => by kernel_rfl⟩
  · exact ⟨e, fun _ => by kernel_rfl⟩
  · exact ⟨f, fun _ => by kernel_rfl⟩
  · exact ⟨g, fun _ => by kernel_rfl⟩
theorem four_far2 (w : World) (b c d : Nat) (u v x y : Value) {B : Nat} {cs : List Value} (h : Box w B cs) (h1 : B ≠ b) (h2 : B ≠ c) (h3 : B ≠ d) :
    Box ((((w.setCell ⟨b, 2, none⟩ u).setCell ⟨c, 1, none⟩ v).setCell ⟨d, 3, none⟩ x).setCell ⟨d, 4, none⟩ y) B cs :=
  (((h.grown (grown_set w b 2 u) (by simpa using h1)).grown (grown_set _ c 1 v) (by simpa using h2)).grown (grown_set _ d 3 x) (by simpa using h3)).grown (grown_set _ d 4 y) (by simpa using h3)
theorem four_below2 {w0 : World} (w : World) (b c d : Nat) (u v x y : Value) (h : Below w0.heap.size w0 w) (h1 : w0.heap.size ≤ b) (h2 : w0.heap.size ≤ c) (h3 : w0.heap.size ≤ d) :
    Below w0.heap.size w0 ((((w.setCell ⟨b, 2, none⟩ u).setCell ⟨c, 1, none⟩ v).setCell ⟨d, 3, none⟩ x).setCell ⟨d, 4, none⟩ y) :=
  have a1 := below_grown h (grown_set w b 2 u) h1 h.size
  have a2 := below_grown a1 (grown_set _ c 1 v) h2 a1.size
  have a3 := below_grown a2 (grown_set _ d 3 x) h3 a2.size
  below_grown a3 (grown_set _ d 4 y) h3 a3.size
theorem four_ones2 (w : World) (b c d : Nat) (o : P6) (n j x y : Int) (h1 : b ≠ c) (h2 : b ≠ d) (h3 : c ≠ d) (hb : Box w b (cP o)) (hc : Box w c (cP o)) (hd : Box w d (cP o)) :
    Box ((((w.setCell ⟨b, 2, none⟩ (.int .i64 n)).setCell ⟨c, 1, none⟩ (.int .i64 j)).setCell ⟨d, 3, none⟩ (.int .i64 x)).setCell ⟨d, 4, none⟩ (.int .i64 y)) b (cP ⟨o.k, o.n, n, o.c0, o.c1, o.t⟩) ∧
    Box ((((w.setCell ⟨b, 2, none⟩ (.int .i64 n)).setCell ⟨c, 1, none⟩ (.int .i64 j)).setCell ⟨d, 3, none⟩ (.int .i64 x)).setCell ⟨d, 4, none⟩ (.int .i64 y)) c (cP ⟨o.k, j, o.m, o.c0, o.c1, o.t⟩) ∧
    Box ((((w.setCell ⟨b, 2, none⟩ (.int .i64 n)).setCell ⟨c, 1, none⟩ (.int .i64 j)).setCell ⟨d, 3, none⟩ (.int .i64 x)).setCell ⟨d, 4, none⟩ (.int .i64 y)) d (cP ⟨o.k, o.n, o.m, x, y, o.t⟩) := by
  refine ⟨?_, ?_, ?_⟩
  · exact (((hb.set 2 (.int .i64 n)).grown (grown_set _ c 1 _) (by simpa using h1)).grown (grown_set _ d 3 _) (by simpa using h2)).grown (grown_set _ d 4 _) (by simpa using h2)
  · exact ((((hc.grown (grown_set _ b 2 _) (by simpa using h1.symm))).set 1 (.int .i64 j)).grown (grown_set _ d 3 _) (by simpa using h3)).grown (grown_set _ d 4 _) (by simpa using h3)
  · exact (((hd.grown (grown_set _ b 2 _) (by simpa using h2.symm)).grown (grown_set _ c 1 _) (by simpa using h3.symm)).set 3 (.int .i64 x)).set 4 (.int .i64 y)
set_option maxRecDepth 100000 in
set_option maxHeartbeats 8000000 in
theorem checks_z (z0 z1 z2 z3 z4 z5 z6 z7 n : Int) (s o : S8) (p q : P6) (hts : p.t.size ≤ 9223372036854775807)
    (cS1 : Hid (∀ w, Calls Tryd.prog 10 #[.agg #[.int .u8 z0, .int .u8 z1, .int .u8 z2, .int .u8 z3, .int .u32 z4, .int .u32 z5, .int .u32 z6, .int .u32 z7]] w fun r w' => r = .returned (.agg #[.int .i64 o.a, .int .i64 o.u, .int .i64 o.f0, .int .i64 o.f1, .int .i64 o.b0, .int .i64 o.b1, .int .i64 o.l0, .int .i64 o.l1]) ∧ Below w.heap.size w w'))
    (cP1 : Hid (∀ w, Calls Tryd.prog 11 #[.agg #[.int .u8 z0, .int .u8 z1, .int .u8 z2, .int .u8 z3, .int .u32 z4, .int .u32 z5, .int .u32 z6, .int .u32 z7]] w fun r w' => r = .returned (.agg #[.int .i64 q.k, .int .i64 q.n, .int .i64 q.m, .int .i64 q.c0, .int .i64 q.c1, .string q.t]) ∧ Below w.heap.size w w'))
    (w : World) (h : Tl w) : Calls Tryd.prog 3 #[.agg #[.int .i64 s.a, .int .i64 s.u, .int .i64 s.f0, .int .i64 s.f1, .int .i64 s.b0, .int .i64 s.b1, .int .i64 s.l0, .int .i64 s.l1], .agg #[.int .i64 p.k, .int .i64 p.n, .int .i64 p.m, .int .i64 p.c0, .int .i64 p.c1, .string p.t], .agg #[.int .u8 z0, .int .u8 z1, .int .u8 z2, .int .u8 z3, .int .u32 z4, .int .u32 z5, .int .u32 z6, .int .u32 z7], .int .i64 n] w fun e w' => e = .returned (.bool true) ∧ Below w.heap.size w w' := by
  have H := Lib.hid h; clear h
  go_enter Tryd.func3, Tryd.ntmps3
  go_upto_region 1 with fail
  have hA0 : Box (((w.alloc (.cells #[.int .i64 s.a, .int .i64 s.u, .int .i64 s.f0, .int .i64 s.f1, .int .i64 s.b0, .int .i64 s.b1, .int .i64 s.l0, .int .i64 s.l1] 25)).alloc (.cells #[.int .i64 p.k, .int .i64 p.n, .int .i64 p.m, .int .i64 p.c0, .int .i64 p.c1, .string p.t] 27)).alloc (.cells #[.int .u8 z0, .int .u8 z1, .int .u8 z2, .int .u8 z3, .int .u32 z4, .int .u32 z5, .int .u32 z6, .int .u32 z7] 31)) w.heap.size (cS s) := ((Box.new _ _ _).alloc _).alloc _
  have hB0 : Box (((w.alloc (.cells #[.int .i64 s.a, .int .i64 s.u, .int .i64 s.f0, .int .i64 s.f1, .int .i64 s.b0, .int .i64 s.b1, .int .i64 s.l0, .int .i64 s.l1] 25)).alloc (.cells #[.int .i64 p.k, .int .i64 p.n, .int .i64 p.m, .int .i64 p.c0, .int .i64 p.c1, .string p.t] 27)).alloc (.cells #[.int .u8 z0, .int .u8 z1, .int .u8 z2, .int .u8 z3, .int .u32 z4, .int .u32 z5, .int .u32 z6, .int .u32 z7] 31)) (w.heap.size + 1) (cP p) := (Box.of (alloc1_at _ _ _)).alloc _
  have hC0 : Box (((w.alloc (.cells #[.int .i64 s.a, .int .i64 s.u, .int .i64 s.f0, .int .i64 s.f1, .int .i64 s.b0, .int .i64 s.b1, .int .i64 s.l0, .int .i64 s.l1] 25)).alloc (.cells #[.int .i64 p.k, .int .i64 p.n, .int .i64 p.m, .int .i64 p.c0, .int .i64 p.c1, .string p.t] 27)).alloc (.cells #[.int .u8 z0, .int .u8 z1, .int .u8 z2, .int .u8 z3, .int .u32 z4, .int .u32 z5, .int .u32 z6, .int .u32 z7] 31)) (w.heap.size + 1 + 1) [.int .u8 z0, .int .u8 z1, .int .u8 z2, .int .u8 z3, .int .u32 z4, .int .u32 z5, .int .u32 z6, .int .u32 z7] := Box.of (alloc2_at _ _ _ _)
  have hW0 : Below w.heap.size w (((w.alloc (.cells #[.int .i64 s.a, .int .i64 s.u, .int .i64 s.f0, .int .i64 s.f1, .int .i64 s.b0, .int .i64 s.b1, .int .i64 s.l0, .int .i64 s.l1] 25)).alloc (.cells #[.int .i64 p.k, .int .i64 p.n, .int .i64 p.m, .int .i64 p.c0, .int .i64 p.c1, .string p.t] 27)).alloc (.cells #[.int .u8 z0, .int .u8 z1, .int .u8 z2, .int .u8 z3, .int .u32 z4, .int .u32 z5, .int .u32 z6, .int .u32 z7] 31)) := (two_boxes w _ _).alloc (by simp; omega) _
  have hN : w.heap.size ≠ w.heap.size + 1 ∧ w.heap.size + 1 + 1 ≠ w.heap.size + 1 ∧ w.heap.size ≤ w.heap.size + 1 := by omega
  generalize ((w.alloc (.cells #[.int .i64 s.a, .int .i64 s.u, .int .i64 s.f0, .int .i64 s.f1, .int .i64 s.b0, .int .i64 s.b1, .int .i64 s.l0, .int .i64 s.l1] 25)).alloc (.cells #[.int .i64 p.k, .int .i64 p.n, .int .i64 p.m, .int .i64 p.c0, .int .i64 p.c1, .string p.t] 27)).alloc (.cells #[.int .u8 z0, .int .u8 z1, .int .u8 z2, .int .u8 z3, .int .u32 z4, .int .u32 z5, .int .u32 z6, .int .u32 z7] 31) = w1 at hA0 hB0 hC0 hW0 ⊢
  generalize w.heap.size + 1 + 1 = C at hC0 hN ⊢
  generalize hBB : w.heap.size + 1 = B at hB0 hN ⊢
  generalize hAA : w.heap.size = A at hA0 hN hW0 ⊢
  clear hBB
  have HA := Lib.hid hA0
  have HB := Lib.hid hB0
  have HC := Lib.hid hC0
  have HW := Lib.hid hW0
  have HN := Lib.hid hN
  have HAA := Lib.hid hAA
  clear hA0 hB0 hC0 hW0 hN hAA
  have x5 := HB.out.cell 5 _ rfl
  have lB := HB.out.1
  have v5 := HB.out.free 5 (by show 5 < 6; decide)
  go_upto_region 2 with fail
  clear x5 lB v5
  rename_i K hK
  have HK := Lib.hid hK
  clear hK
  generalize p.t.extract 0 (min (↑p.t.size : Int) 10).toNat = tt
  have hA1 := HA.out.grown (grown_set w1 B 5 (.string tt)) (by simp; exact HN.out.1)
  have hC1 := HC.out.grown (grown_set w1 B 5 (.string tt)) (by simp; exact HN.out.2.1)
  have hB1 : Box (w1.setCell ⟨B, 5, none⟩ (.string tt)) B (cP ⟨p.k, p.n, p.m, p.c0, p.c1, tt⟩) := HB.out.set 5 (.string tt)
  have hW1 : Below w.heap.size w (w1.setCell ⟨B, 5, none⟩ (.string tt)) := by
    have hs := HW.out.size
    have h1 := below_grown HW.out (grown_set w1 B 5 (.string tt)) HN.out.2.2 (by rw [← HAA.out]; exact hs)
    rw [← HAA.out] at h1
    exact h1
  generalize w1.setCell ⟨B, 5, none⟩ (.string tt) = w2 at hA1 hB1 hC1 hW1 ⊢
  refine regionC z0 z1 z2 z3 z4 z5 z6 z7 o q _ _ _ _ _ _ _ _ _ _ _ _ _ _ _ _ w2 C hC1 cS1 cP1 rfl (Lib.hid ?_)
  intro B9 B10 w3 hb g9 g10 n90 h9 h10
  show K _ _
  refine HK.out _ _ ?_
  have hA2 := hA1.keep hb
  have hB2 := hB1.keep hb
  have hW2 := hW1.trans (hb.mono hW1.size)
  clear HA HB HC HW HN hA1 hB1 hC1 hW1 hb g9 g10 n90 cS1 cP1 HK
  unfold actC
  have HA := Lib.hid hA2
  have HB := Lib.hid hB2
  have HW := Lib.hid hW2
  have H9 := Lib.hid h9
  have H10 := Lib.hid h10
  clear hA2 hB2 hW2 h9 h10
  go_upto_region 3 with fail
  rename_i K3 hK
  have HK := Lib.hid hK
  clear hK
  refine regionD o _ _ _ _ _ _ _ _ _ _ _ _ _ _ _ _ _ _ _ _ _ _ w3 B9 H9.out rfl (Lib.hid ?_)
  intro B11 B12 B13 w4 hb g11 g12 g13 n1 n2 n3 h11 h12 h13
  show K3 _ _
  refine HK.out _ _ ?_
  have hA := HA.out.keep hb
  have hB := HB.out.keep hb
  have hW := HW.out.trans (hb.mono HW.out.size)
  have h9 := H9.out.keep hb
  have h10 := H10.out.keep hb
  have hN : A ≠ B11 ∧ A ≠ B12 ∧ A ≠ B13 ∧ B11 ≠ B12 ∧ B11 ≠ B13 ∧ B12 ≠ B13 ∧ B ≠ B11 ∧ B ≠ B12 ∧ B ≠ B13 ∧ B9 ≠ B11 ∧ B9 ≠ B12 ∧ B9 ≠ B13 ∧ B10 ≠ B11 ∧ B10 ≠ B12 ∧ B10 ≠ B13 ∧ w.heap.size ≤ B11 ∧ w.heap.size ≤ B12 ∧ w.heap.size ≤ B13 := by
    have a1 := HA.out.1
    have a2 := HB.out.1
    have a3 := H9.out.1
    have a4 := H10.out.1
    have a5 := HW.out.size
    exact ⟨by omega, by omega, by omega, n1, n2, n3, by omega, by omega, by omega, by omega, by omega, by omega, by omega, by omega, by omega, by omega, by omega, by omega⟩
  clear HA HB HW H9 H10 HK hb g11 g12 g13 n1 n2 n3
  unfold actD
  have lA := hA.1
  have xA6 := hA.cell 6 _ rfl
  have xA7 := hA.cell 7 _ rfl
  have l11 := h11.1
  have x11 := h11.cell 0 _ rfl
  have v11 := h11.free 0 (by show 0 < 8; decide)
  have l12 := h12.1
  have x12 := h12.cell 1 _ rfl
  have v12 := h12.free 1 (by show 1 < 8; decide)
  have l13 := h13.1
  have x13_6 := h13.cell 6 _ rfl
  have v13_6 := h13.free 6 (by show 6 < 8; decide)
  have x13_7 := h13.cell 7 _ rfl
  have v13_7 := h13.free 7 (by show 7 < 8; decide)
  have HA := Lib.hid hA
  have HB := Lib.hid hB
  have HW := Lib.hid hW
  have H9 := Lib.hid h9
  have H10 := Lib.hid h10
  have H11 := Lib.hid h11
  have H12 := Lib.hid h12
  have H13 := Lib.hid h13
  have HN := Lib.hid hN
  obtain ⟨m1, m2, m3, m4, m5, m6, -⟩ := hN
  clear hA hB hW h9 h10 h11 h12 h13
  go_upto_region 4 with fail
  rename_i K4 hK
  have HK := Lib.hid hK
  clear hK
  go_region
  show K4 _ _
  refine HK.out _ _ ?_
  clear HK lA xA6 xA7 l11 x11 v11 l12 x12 v12 l13 x13_6 v13_6 x13_7 v13_7 m1 m2 m3 m4 m5 m6
  obtain ⟨m1, m2, m3, m4, m5, m6, m7, m8, m9, m10, m11, m12, m13, m14, m15, m16, m17, m18⟩ := HN.out
  have hA := (four_far w4 B11 B12 B13 (.int .i64 n) (.int .i64 n) (.int .i64 s.l0) (.int .i64 s.l1) HA.out m1 m2 m3).drew
  have hB := (four_far w4 B11 B12 B13 (.int .i64 n) (.int .i64 n) (.int .i64 s.l0) (.int .i64 s.l1) HB.out m7 m8 m9).drew
  have h9 := (four_far w4 B11 B12 B13 (.int .i64 n) (.int .i64 n) (.int .i64 s.l0) (.int .i64 s.l1) H9.out m10 m11 m12).drew
  have h10 := (four_far w4 B11 B12 B13 (.int .i64 n) (.int .i64 n) (.int .i64 s.l0) (.int .i64 s.l1) H10.out m13 m14 m15).drew
  have hM := four_ones w4 B11 B12 B13 o n s.l0 s.l1 m4 m5 m6 H11.out H12.out H13.out
  have hW := (four_below _ B11 B12 B13 (.int .i64 n) (.int .i64 n) (.int .i64 s.l0) (.int .i64 s.l1) HW.out m16 m17 m18).drew
  clear m1 m2 m3 m4 m5 m6 m7 m8 m9 m10 m11 m12 m13 m14 m15 m16 m17 m18 HA HB HW H9 H10 H11 H12 H13 HN
  have h11 := hM.1.drew
  have h12 := hM.2.1.drew
  have h13 := hM.2.2.drew
  clear hM
  generalize ((((w4.setCell ⟨B11, 0, none⟩ (.int .i64 n)).setCell ⟨B12, 1, none⟩ (.int .i64 n)).setCell ⟨B13, 6, none⟩ (.int .i64 s.l0)).setCell ⟨B13, 7, none⟩ (.int .i64 s.l1)).drew = w5 at hA hB h9 h10 h11 h12 h13 hW ⊢
  have lA := hA.1
  have xA_0 := hA.cell 0 _ rfl
  have xA_1 := hA.cell 1 _ rfl
  have xA_2 := hA.cell 2 _ rfl
  have xA_3 := hA.cell 3 _ rfl
  have xA_4 := hA.cell 4 _ rfl
  have xA_5 := hA.cell 5 _ rfl
  have xA_6 := hA.cell 6 _ rfl
  have xA_7 := hA.cell 7 _ rfl
  have l9 := h9.1
  have x9_0 := h9.cell 0 _ rfl
  have x9_1 := h9.cell 1 _ rfl
  have x9_2 := h9.cell 2 _ rfl
  have x9_3 := h9.cell 3 _ rfl
  have x9_4 := h9.cell 4 _ rfl
  have x9_5 := h9.cell 5 _ rfl
  have x9_6 := h9.cell 6 _ rfl
  have x9_7 := h9.cell 7 _ rfl
  have l11 := h11.1
  have x11_0 := h11.cell 0 _ rfl
  have x11_1 := h11.cell 1 _ rfl
  have x11_2 := h11.cell 2 _ rfl
  have x11_3 := h11.cell 3 _ rfl
  have x11_4 := h11.cell 4 _ rfl
  have x11_5 := h11.cell 5 _ rfl
  have x11_6 := h11.cell 6 _ rfl
  have x11_7 := h11.cell 7 _ rfl
  have l12 := h12.1
  have x12_0 := h12.cell 0 _ rfl
  have x12_1 := h12.cell 1 _ rfl
  have x12_2 := h12.cell 2 _ rfl
  have x12_3 := h12.cell 3 _ rfl
  have x12_4 := h12.cell 4 _ rfl
  have x12_5 := h12.cell 5 _ rfl
  have x12_6 := h12.cell 6 _ rfl
  have x12_7 := h12.cell 7 _ rfl
  have l13 := h13.1
  have x13_0 := h13.cell 0 _ rfl
  have x13_1 := h13.cell 1 _ rfl
  have x13_2 := h13.cell 2 _ rfl
  have x13_3 := h13.cell 3 _ rfl
  have x13_4 := h13.cell 4 _ rfl
  have x13_5 := h13.cell 5 _ rfl
  have x13_6 := h13.cell 6 _ rfl
  have x13_7 := h13.cell 7 _ rfl
  have HA := Lib.hid hA
  clear hA
  have HB := Lib.hid hB
  clear hB
  have H9 := Lib.hid h9
  clear h9
  have H10 := Lib.hid h10
  clear h10
  have H11 := Lib.hid h11
  clear h11
  have H12 := Lib.hid h12
  clear h12
  have H13 := Lib.hid h13
  clear h13
  have HW := Lib.hid hW
  clear hW
  go_wp2_with fail
  clear lA xA_0 xA_1 xA_2 xA_3 xA_4 xA_5 xA_6 xA_7 l9 x9_0 x9_1 x9_2 x9_3 x9_4 x9_5 x9_6 x9_7 l11 x11_0 x11_1 x11_2 x11_3 x11_4 x11_5 x11_6 x11_7 l12 x12_0 x12_1 x12_2 x12_3 x12_4 x12_5 x12_6 x12_7 l13 x13_0 x13_1 x13_2 x13_3 x13_4 x13_5 x13_6 x13_7
  have HF := Lib.hid (Below.refl w5.heap.size w5)
  go_loopw [57] (fun i wr => ∃ k : Nat, k ≤ 6 ∧ i = .int .i64 k ∧ Hid (Below w5.heap.size w5 wr)) (fun i _ => 6 - (intOf i).toNat)
  case atStart => exact ⟨0, by omega, rfl, HF⟩
  case round =>
    clear HF
    obtain ⟨k, hk, rfl, hid⟩ := hrel
    by_cases hk6 : k = 6
    · subst hk6
      rw [show (((6 : Nat)) : Int) = 6 from rfl]
      go_upto_region 11 with fail
      rename_i K11 hK
      have HK := Lib.hid hK
      clear hK
      refine regionE q _ _ _ _ _ _ _ _ _ _ _ _ _ _ _ _ _ _ _ _ _ _ _ _ _ _ _ _ _ _ _ _ _ _ _ _ _ _ _ _ _ _ _ _ _ _ _ _ _ _ _ _ _ _ _ _ _ _ _ wr B10 (H10.out.keep hid.out) rfl (Lib.hid ?_)
      intro B16 B17 B18 w7 hb g16 g17 g18 n1 n2 n3 h16 h17 h18
      show K11 _ _
      refine HK.out _ _ ?_
      have hB := (HB.out.keep hid.out).keep hb
      have h10 := (H10.out.keep hid.out).keep hb
      have h5 := HW.out.trans (hid.out.mono HW.out.size)
      have hW := h5.trans (hb.mono h5.size)
      have hN : B ≠ B16 ∧ B ≠ B17 ∧ B ≠ B18 ∧ B10 ≠ B16 ∧ B10 ≠ B17 ∧ B10 ≠ B18 ∧ B16 ≠ B17 ∧ B16 ≠ B18 ∧ B17 ≠ B18 ∧ w.heap.size ≤ B16 ∧ w.heap.size ≤ B17 ∧ w.heap.size ≤ B18 := by
        have a2 := (HB.out.keep hid.out).1
        have a4 := (H10.out.keep hid.out).1
        have a5 := h5.size
        exact ⟨by omega, by omega, by omega, by omega, by omega, by omega, n1, n2, n3, by omega, by omega, by omega⟩
      clear h5 hb g16 g17 g18 n1 n2 n3 HK HA HB HW H9 H10 H11 H12 H13 hid
      unfold actE
      obtain ⟨j, hj⟩ : ∃ j : Int, ((n.toNat : Int) - 1 = j) := ⟨_, rfl⟩
      have lB := hB.1
      have xB_0 := hB.cell 0 _ rfl
      have xB_1 := hB.cell 1 _ rfl
      have xB_2 := hB.cell 2 _ rfl
      have xB_3 := hB.cell 3 _ rfl
      have xB_4 := hB.cell 4 _ rfl
      have xB_5 := hB.cell 5 _ rfl
      have l16 := h16.1
      have x16 := h16.cell 2 _ rfl
      have v16 := h16.free 2 (by show 2 < 6; decide)
      have l17 := h17.1
      have x17 := h17.cell 1 _ rfl
      have v17 := h17.free 1 (by show 1 < 6; decide)
      have l18 := h18.1
      have x18_3 := h18.cell 3 _ rfl
      have v18_3 := h18.free 3 (by show 3 < 6; decide)
      have x18_4 := h18.cell 4 _ rfl
      have v18_4 := h18.free 4 (by show 4 < 6; decide)
      have HB := Lib.hid hB
      clear hB
      have H10 := Lib.hid h10
      clear h10
      have H16 := Lib.hid h16
      clear h16
      have H17 := Lib.hid h17
      clear h17
      have H18 := Lib.hid h18
      clear h18
      have HW := Lib.hid hW
      clear hW
      have HN := Lib.hid hN
      obtain ⟨m1, m2, m3, m4, m5, m6, m7, m8, m9, -⟩ := hN
      go_upto_region 12 with fail
      rename_i K12 hK
      have HK := Lib.hid hK
      clear hK
      go_region
      show K12 _ _
      refine HK.out _ _ ?_
      generalize wrap64 (wrap64 ((IntKind.u64.wrap n).tmod 9) - 1) = j2
      clear HK hj j l16 x16 v16 l17 x17 v17 l18 x18_3 v18_3 x18_4 v18_4 lB xB_0 xB_1 xB_2 xB_3 xB_4 xB_5 m1 m2 m3 m4 m5 m6 m7 m8 m9
      obtain ⟨m1, m2, m3, m4, m5, m6, m7, m8, m9, m10, m11, m12⟩ := HN.out
      have hB := (four_far2 w7 B16 B17 B18 (.int .i64 n) (.int .i64 j2) (.int .i64 p.c0) (.int .i64 p.c1) HB.out m1 m2 m3).drew
      have h10 := (four_far2 w7 B16 B17 B18 (.int .i64 n) (.int .i64 j2) (.int .i64 p.c0) (.int .i64 p.c1) H10.out m4 m5 m6).drew
      have hM := four_ones2 w7 B16 B17 B18 q n j2 p.c0 p.c1 m7 m8 m9 H16.out H17.out H18.out
      have hW := (four_below2 w7 B16 B17 B18 (.int .i64 n) (.int .i64 j2) (.int .i64 p.c0) (.int .i64 p.c1) HW.out m10 m11 m12).drew
      clear m1 m2 m3 m4 m5 m6 m7 m8 m9 m10 m11 m12 HB HW H10 H16 H17 H18 HN
      have h16 := hM.1.drew
      have h17 := hM.2.1.drew
      have h18 := hM.2.2.drew
      clear hM
      generalize ((((w7.setCell ⟨B16, 2, none⟩ (.int .i64 n)).setCell ⟨B17, 1, none⟩ (.int .i64 j2)).setCell ⟨B18, 3, none⟩ (.int .i64 p.c0)).setCell ⟨B18, 4, none⟩ (.int .i64 p.c1)).drew = w8 at hB h10 h16 h17 h18 hW ⊢
      have lB := hB.1
      have xB_0 := hB.cell 0 _ rfl
      have xB_1 := hB.cell 1 _ rfl
      have xB_2 := hB.cell 2 _ rfl
      have xB_3 := hB.cell 3 _ rfl
      have xB_4 := hB.cell 4 _ rfl
      have xB_5 := hB.cell 5 _ rfl
      have l10 := h10.1
      have x10_0 := h10.cell 0 _ rfl
      have x10_1 := h10.cell 1 _ rfl
      have x10_2 := h10.cell 2 _ rfl
      have x10_3 := h10.cell 3 _ rfl
      have x10_4 := h10.cell 4 _ rfl
      have x10_5 := h10.cell 5 _ rfl
      have l16 := h16.1
      have x16_0 := h16.cell 0 _ rfl
      have x16_1 := h16.cell 1 _ rfl
      have x16_2 := h16.cell 2 _ rfl
      have x16_3 := h16.cell 3 _ rfl
      have x16_4 := h16.cell 4 _ rfl
      have x16_5 := h16.cell 5 _ rfl
      have l17 := h17.1
      have x17_0 := h17.cell 0 _ rfl
      have x17_1 := h17.cell 1 _ rfl
      have x17_2 := h17.cell 2 _ rfl
      have x17_3 := h17.cell 3 _ rfl
      have x17_4 := h17.cell 4 _ rfl
      have x17_5 := h17.cell 5 _ rfl
      have l18 := h18.1
      have x18_0 := h18.cell 0 _ rfl
      have x18_1 := h18.cell 1 _ rfl
      have x18_2 := h18.cell 2 _ rfl
      have x18_3 := h18.cell 3 _ rfl
      have x18_4 := h18.cell 4 _ rfl
      have x18_5 := h18.cell 5 _ rfl
      have HB := Lib.hid hB
      clear hB
      have H10 := Lib.hid h10
      clear h10
      have H16 := Lib.hid h16
      clear h16
      have H17 := Lib.hid h17
      clear h17
      have H18 := Lib.hid h18
      clear h18
      have HW := Lib.hid hW
      clear hW
      go_wp2_with fail
      clear lB xB_0 xB_1 xB_2 xB_3 xB_4 xB_5 l10 x10_0 x10_1 x10_2 x10_3 x10_4 x10_5 l16 x16_0 x16_1 x16_2 x16_3 x16_4 x16_5 l17 x17_0 x17_1 x17_2 x17_3 x17_4 x17_5 l18 x18_0 x18_1 x18_2 x18_3 x18_4 x18_5
      have HF := Lib.hid (Below.refl w8.heap.size w8)
      go_loopw [104] (fun i wr => ∃ k : Nat, k ≤ 7 ∧ i = .int .i64 k ∧ Hid (Below w8.heap.size w8 wr)) (fun i _ => 7 - (intOf i).toNat)
      case atStart => exact ⟨0, by omega, rfl, HF⟩
      case round =>
        clear HF
        obtain ⟨k, hk, rfl, hid⟩ := hrel
        by_cases hk7 : k = 7
        · subst hk7
          rw [show (((7 : Nat)) : Int) = 7 from rfl]
          go_wp2_with fail
          have h0 := HW.out.trans (hid.out.mono HW.out.size)
          refine (works_any _ ((H.out).keep h0)).mono ?_
          rintro e w9 ⟨rfl, hb2⟩
          have h2 := Lib.hid (h0.trans (hb2.mono h0.size))
          clear hb2 h0
          go_wp2
          go_ret
          exact ⟨rfl, h2.out⟩
        · skip
          have hlt : (k : Int) < 7 := by omega
          obtain ⟨x, e0⟩ : ∃ x : P6, ∀ W, (Instr.index 38 (.agg #[.int .i64 p.k, .int .i64 p.n, .int .i64 p.m, .int .i64 p.c0, .int .i64 p.c1, .string tt, .int .i64 q.k, .int .i64 q.n, .int .i64 q.m, .int .i64 q.c0, .int .i64 q.c1, .string q.t, .int .i64 q.k, .int .i64 q.n, .int .i64 n, .int .i64 q.c0, .int .i64 q.c1, .string q.t, .int .i64 q.k, .int .i64 j2, .int .i64 q.m, .int .i64 q.c0, .int .i64 q.c1, .string q.t, .int .i64 q.k, .int .i64 q.n, .int .i64 q.m, .int .i64 p.c0, .int .i64 p.c1, .string q.t, .int .i64 39, .int .i64 p.n, .int .i64 p.m, .int .i64 p.c0, .int .i64 p.c1, .string ⟨#[]⟩, .int .i64 p.k, .int .i64 q.n, .int .i64 q.m, .int .i64 q.c0, .int .i64 q.c1, .string tt]) (.int .i64 (k : Int))).run Tryd.prog W = .ok (.agg #[.int .i64 x.k, .int .i64 x.n, .int .i64 x.m, .int .i64 x.c0, .int .i64 x.c1, .string x.t]) W := ix7 ⟨p.k, p.n, p.m, p.c0, p.c1, tt⟩ q ⟨q.k, q.n, n, q.c0, q.c1, q.t⟩ ⟨q.k, j2, q.m, q.c0, q.c1, q.t⟩ ⟨q.k, q.n, q.m, p.c0, p.c1, q.t⟩ ⟨39, p.n, p.m, p.c0, p.c1, ⟨#[]⟩⟩ ⟨p.k, q.n, q.m, q.c0, q.c1, tt⟩ k (by omega)
          obtain ⟨r, hr⟩ : ∃ r, errP x = r := ⟨_, rfl⟩
          have HR := Lib.hid hr
          clear hr
          go_wp2_with fail
          have hC : Box (wr.alloc (.cells #[.int .i64 x.k, .int .i64 x.n, .int .i64 x.m, .int .i64 x.c0, .int .i64 x.c1, .string x.t] 27)) wr.heap.size (cP x) := Box.new _ _ _
          have h1 := hid.out.alloc hid.out.size (.cells #[.int .i64 x.k, .int .i64 x.n, .int .i64 x.m, .int .i64 x.c0, .int .i64 x.c1, .string x.t] 27)
          clear hid e0
          generalize wr.alloc (.cells #[.int .i64 x.k, .int .i64 x.n, .int .i64 x.m, .int .i64 x.c0, .int .i64 x.c1, .string x.t] 27) = w6 at hC h1 ⊢
          generalize wr.heap.size = E at hC ⊢
          have H1 := Lib.hid h1
          clear h1
          have hG : Below w6.heap.size w6 w6.drew := (Below.refl _ w6).drew
          have lC := hC.1
          have xC0 := hC.cell 0 _ rfl
          have xC1 := hC.cell 1 _ rfl
          have xC2 := hC.cell 2 _ rfl
          have xC3 := hC.cell 3 _ rfl
          have xC4 := hC.cell 4 _ rfl
          have xC5 := hC.cell 5 _ rfl
          have dC0 : w6.drew.cell? ⟨E, 0, none⟩ = some (.int .i64 x.k) := xC0
          have dC1 : w6.drew.cell? ⟨E, 1, none⟩ = some (.int .i64 x.n) := xC1
          have dC2 : w6.drew.cell? ⟨E, 2, none⟩ = some (.int .i64 x.m) := xC2
          have dC3 : w6.drew.cell? ⟨E, 3, none⟩ = some (.int .i64 x.c0) := xC3
          have dC4 : w6.drew.cell? ⟨E, 4, none⟩ = some (.int .i64 x.c1) := xC4
          have dC5 : w6.drew.cell? ⟨E, 5, none⟩ = some (.string x.t) := xC5
          clear hC
          have HT := Lib.hid ((H.out).keep (HW.out.trans (H1.out.mono HW.out.size)))
          go_region_held3 (fun w' => w'.cell? ⟨E, 0, none⟩ = some (.int .i64 x.k) ∧ w'.cell? ⟨E, 1, none⟩ = some (.int .i64 x.n) ∧ w'.cell? ⟨E, 2, none⟩ = some (.int .i64 x.m) ∧ w'.cell? ⟨E, 3, none⟩ = some (.int .i64 x.c0) ∧ w'.cell? ⟨E, 4, none⟩ = some (.int .i64 x.c1) ∧ w'.cell? ⟨E, 5, none⟩ = some (.string x.t)) (first | exact ⟨by with_reducible assumption, by with_reducible assumption, by with_reducible assumption, by with_reducible assumption, by with_reducible assumption, by with_reducible assumption⟩ | go_keep) (first
            | (go_at_call 14; ((with_reducible refine (checkPen_is x r HR.out _ (HT.out.keep hG)).mono ?_); (rintro e wA ⟨rfl, hbA⟩; have hG := hG.trans (hbA.mono hG.size); clear hbA; (try clear dC0 dC1 dC2 dC3 dC4 dC5); have dC0 := (hG.cell (p := ⟨E, 0, none⟩) lC).trans xC0; have dC1 := (hG.cell (p := ⟨E, 1, none⟩) lC).trans xC1; have dC2 := (hG.cell (p := ⟨E, 2, none⟩) lC).trans xC2; have dC3 := (hG.cell (p := ⟨E, 3, none⟩) lC).trans xC3; have dC4 := (hG.cell (p := ⟨E, 4, none⟩) lC).trans xC4; have dC5 := (hG.cell (p := ⟨E, 5, none⟩) lC).trans xC5; skip)))
            | (go_at_call 15; ((with_reducible refine (rcheckPen_is x r HR.out _).mono ?_); (rintro e wA ⟨rfl, hbA⟩; have hG := hG.trans (hbA.mono hG.size); clear hbA; (try clear dC0 dC1 dC2 dC3 dC4 dC5); have dC0 := (hG.cell (p := ⟨E, 0, none⟩) lC).trans xC0; have dC1 := (hG.cell (p := ⟨E, 1, none⟩) lC).trans xC1; have dC2 := (hG.cell (p := ⟨E, 2, none⟩) lC).trans xC2; have dC3 := (hG.cell (p := ⟨E, 3, none⟩) lC).trans xC3; have dC4 := (hG.cell (p := ⟨E, 4, none⟩) lC).trans xC4; have dC5 := (hG.cell (p := ⟨E, 5, none⟩) lC).trans xC5; skip))))
          all_goals
            have hX := Lib.hid (H1.out.trans (hG.mono H1.out.size))
            clear hG lC xC0 xC1 xC2 xC3 xC4 xC5 dC0 dC1 dC2 dC3 dC4 dC5 H1 HT HR
            go_wp2
            go_roundw
            case rel => exact ⟨k + 1, by omega, by rw [show ((k + 1 : Nat) : Int) = (k : Int) + 1 from rfl], hX⟩
            case measure => simp [intOf]; omega
    · skip
      have hlt : (k : Int) < 6 := by omega
      obtain ⟨x, e0⟩ : ∃ x : S8, ∀ W, (Instr.index 34 (.agg #[.int .i64 s.a, .int .i64 s.u, .int .i64 s.f0, .int .i64 s.f1, .int .i64 s.b0, .int .i64 s.b1, .int .i64 s.l0, .int .i64 s.l1, .int .i64 o.a, .int .i64 o.u, .int .i64 o.f0, .int .i64 o.f1, .int .i64 o.b0, .int .i64 o.b1, .int .i64 o.l0, .int .i64 o.l1, .int .i64 n, .int .i64 o.u, .int .i64 o.f0, .int .i64 o.f1, .int .i64 o.b0, .int .i64 o.b1, .int .i64 o.l0, .int .i64 o.l1, .int .i64 o.a, .int .i64 n, .int .i64 o.f0, .int .i64 o.f1, .int .i64 o.b0, .int .i64 o.b1, .int .i64 o.l0, .int .i64 o.l1, .int .i64 o.a, .int .i64 o.u, .int .i64 o.f0, .int .i64 o.f1, .int .i64 o.b0, .int .i64 o.b1, .int .i64 s.l0, .int .i64 s.l1, .int .i64 (n.tmod 260), .int .i64 (s.u.tmod 8), .int .i64 o.f0, .int .i64 o.f1, .int .i64 0, .int .i64 0, .int .i64 0, .int .i64 0]) (.int .i64 (k : Int))).run Tryd.prog W = .ok (.agg #[.int .i64 x.a, .int .i64 x.u, .int .i64 x.f0, .int .i64 x.f1, .int .i64 x.b0, .int .i64 x.b1, .int .i64 x.l0, .int .i64 x.l1]) W := ix6 s o ⟨n, o.u, o.f0, o.f1, o.b0, o.b1, o.l0, o.l1⟩ ⟨o.a, n, o.f0, o.f1, o.b0, o.b1, o.l0, o.l1⟩ ⟨o.a, o.u, o.f0, o.f1, o.b0, o.b1, s.l0, s.l1⟩ ⟨n.tmod 260, s.u.tmod 8, o.f0, o.f1, 0, 0, 0, 0⟩ k (by omega)
      obtain ⟨r, hr⟩ : ∃ r, errS x = r := ⟨_, rfl⟩
      have HR := Lib.hid hr
      clear hr
      go_wp2_with fail
      have hC : Box (wr.alloc (.cells #[.int .i64 x.a, .int .i64 x.u, .int .i64 x.f0, .int .i64 x.f1, .int .i64 x.b0, .int .i64 x.b1, .int .i64 x.l0, .int .i64 x.l1] 25)) wr.heap.size (cS x) := Box.new _ _ _
      have h1 := hid.out.alloc hid.out.size (.cells #[.int .i64 x.a, .int .i64 x.u, .int .i64 x.f0, .int .i64 x.f1, .int .i64 x.b0, .int .i64 x.b1, .int .i64 x.l0, .int .i64 x.l1] 25)
      clear hid e0
      generalize wr.alloc (.cells #[.int .i64 x.a, .int .i64 x.u, .int .i64 x.f0, .int .i64 x.f1, .int .i64 x.b0, .int .i64 x.b1, .int .i64 x.l0, .int .i64 x.l1] 25) = w6 at hC h1 ⊢
      generalize wr.heap.size = E at hC ⊢
      have H1 := Lib.hid h1
      clear h1
      have hG : Below w6.heap.size w6 w6.drew := (Below.refl _ w6).drew
      have lC := hC.1
      have xC0 := hC.cell 0 _ rfl
      have xC1 := hC.cell 1 _ rfl
      have xC2 := hC.cell 2 _ rfl
      have xC3 := hC.cell 3 _ rfl
      have xC4 := hC.cell 4 _ rfl
      have xC5 := hC.cell 5 _ rfl
      have xC6 := hC.cell 6 _ rfl
      have xC7 := hC.cell 7 _ rfl
      have dC0 : w6.drew.cell? ⟨E, 0, none⟩ = some (.int .i64 x.a) := xC0
      have dC1 : w6.drew.cell? ⟨E, 1, none⟩ = some (.int .i64 x.u) := xC1
      have dC2 : w6.drew.cell? ⟨E, 2, none⟩ = some (.int .i64 x.f0) := xC2
      have dC3 : w6.drew.cell? ⟨E, 3, none⟩ = some (.int .i64 x.f1) := xC3
      have dC4 : w6.drew.cell? ⟨E, 4, none⟩ = some (.int .i64 x.b0) := xC4
      have dC5 : w6.drew.cell? ⟨E, 5, none⟩ = some (.int .i64 x.b1) := xC5
      have dC6 : w6.drew.cell? ⟨E, 6, none⟩ = some (.int .i64 x.l0) := xC6
      have dC7 : w6.drew.cell? ⟨E, 7, none⟩ = some (.int .i64 x.l1) := xC7
      clear hC
      have HT := Lib.hid ((H.out).keep (HW.out.trans (H1.out.mono HW.out.size)))
      go_region_held3 (fun w' => w'.cell? ⟨E, 0, none⟩ = some (.int .i64 x.a) ∧ w'.cell? ⟨E, 1, none⟩ = some (.int .i64 x.u) ∧ w'.cell? ⟨E, 2, none⟩ = some (.int .i64 x.f0) ∧ w'.cell? ⟨E, 3, none⟩ = some (.int .i64 x.f1) ∧ w'.cell? ⟨E, 4, none⟩ = some (.int .i64 x.b0) ∧ w'.cell? ⟨E, 5, none⟩ = some (.int .i64 x.b1) ∧ w'.cell? ⟨E, 6, none⟩ = some (.int .i64 x.l0) ∧ w'.cell? ⟨E, 7, none⟩ = some (.int .i64 x.l1)) (first | exact ⟨by with_reducible assumption, by with_reducible assumption, by with_reducible assumption, by with_reducible assumption, by with_reducible assumption, by with_reducible assumption, by with_reducible assumption, by with_reducible assumption⟩ | go_keep) (first
        | (go_at_call 12; ((with_reducible refine (check_is x r HR.out _ (HT.out.keep hG)).mono ?_); (rintro e wA ⟨rfl, hbA⟩; have hG := hG.trans (hbA.mono hG.size); clear hbA; (try clear dC0 dC1 dC2 dC3 dC4 dC5 dC6 dC7); have dC0 := (hG.cell (p := ⟨E, 0, none⟩) lC).trans xC0; have dC1 := (hG.cell (p := ⟨E, 1, none⟩) lC).trans xC1; have dC2 := (hG.cell (p := ⟨E, 2, none⟩) lC).trans xC2; have dC3 := (hG.cell (p := ⟨E, 3, none⟩) lC).trans xC3; have dC4 := (hG.cell (p := ⟨E, 4, none⟩) lC).trans xC4; have dC5 := (hG.cell (p := ⟨E, 5, none⟩) lC).trans xC5; have dC6 := (hG.cell (p := ⟨E, 6, none⟩) lC).trans xC6; have dC7 := (hG.cell (p := ⟨E, 7, none⟩) lC).trans xC7; skip)))
        | (go_at_call 13; ((with_reducible refine (rcheck_is x r HR.out _).mono ?_); (rintro e wA ⟨rfl, hbA⟩; have hG := hG.trans (hbA.mono hG.size); clear hbA; (try clear dC0 dC1 dC2 dC3 dC4 dC5 dC6 dC7); have dC0 := (hG.cell (p := ⟨E, 0, none⟩) lC).trans xC0; have dC1 := (hG.cell (p := ⟨E, 1, none⟩) lC).trans xC1; have dC2 := (hG.cell (p := ⟨E, 2, none⟩) lC).trans xC2; have dC3 := (hG.cell (p := ⟨E, 3, none⟩) lC).trans xC3; have dC4 := (hG.cell (p := ⟨E, 4, none⟩) lC).trans xC4; have dC5 := (hG.cell (p := ⟨E, 5, none⟩) lC).trans xC5; have dC6 := (hG.cell (p := ⟨E, 6, none⟩) lC).trans xC6; have dC7 := (hG.cell (p := ⟨E, 7, none⟩) lC).trans xC7; skip))))
      all_goals
        have hX := Lib.hid (H1.out.trans (hG.mono H1.out.size))
        clear hG lC xC0 xC1 xC2 xC3 xC4 xC5 xC6 xC7 dC0 dC1 dC2 dC3 dC4 dC5 dC6 dC7 H1 HT HR
        go_wp2
        go_roundw
        case rel => exact ⟨k + 1, by omega, by rw [show ((k + 1 : Nat) : Int) = (k : Int) + 1 from rfl], hX⟩
        case measure => simp [intOf]; omega
theorem checks_any (s : S8) (p : P6) (d : D8) (n : Int) (hts : p.t.size ≤ maxLen) (w : World) (h : Tl w) : Calls Tryd.prog 3 #[.agg #[.int .i64 s.a, .int .i64 s.u, .int .i64 s.f0, .int .i64 s.f1, .int .i64 s.b0, .int .i64 s.b1, .int .i64 s.l0, .int .i64 s.l1], .agg #[.int .i64 p.k, .int .i64 p.n, .int .i64 p.m, .int .i64 p.c0, .int .i64 p.c1, .string p.t], .agg #[.int .u8 (d.a.toNat : Int), .int .u8 (d.u.toNat : Int), .int .u8 (d.w.toNat : Int), .int .u8 (d.m.toNat : Int), .int .u32 (d.e0.toNat : Int), .int .u32 (d.e1.toNat : Int), .int .u32 (d.e2.toNat : Int), .int .u32 (d.e3.toNat : Int)], .int .i64 n] w fun e w' => e = .returned (.bool true) ∧ Below w.heap.size w w' :=
  checks_z _ _ _ _ _ _ _ _ n s (styD d) p (penD d) hts (Lib.hid fun w => style_any d w) (Lib.hid fun w => pen_any d w) w h
end Go.Proofs.YtokjjeekkfefmaaDoor.Sty
