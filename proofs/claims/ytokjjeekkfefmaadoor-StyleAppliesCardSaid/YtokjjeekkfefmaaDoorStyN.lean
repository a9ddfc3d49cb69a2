/-
  Contracts of the reference's Run and Apply of layer 4.
-/
import Derived.Test.YtokjjeekkfefmaaDoorStyM
namespace Go.Proofs.YtokjjeekkfefmaaDoor.Sty
open Go.RowKit Utf Col

theorem or_all : ∀ a : Fin 256, ∀ m ∈ ([1, 2, 4, 8, 16, 32, 64, 128] : List Int), 0 ≤ bits .or .i64 (a.val : Int) m ∧ bits .or .i64 (a.val : Int) m ≤ 255 := by decide +kernel
theorem not_all : ∀ a : Fin 256, ∀ m ∈ ([3, 4, 8, 16, 32, 64, 128] : List Int), 0 ≤ bits .andNot .i64 (a.val : Int) m ∧ bits .andNot .i64 (a.val : Int) m ≤ 255 := by decide +kernel
theorem app_in (s : S8) (p : P6) (hp : okP p = true) (h0 : 0 ≤ s.a) (h1 : s.a ≤ 255) : 0 ≤ (app s p).a ∧ (app s p).a ≤ 255 := by
  have hn := okP_n p hp
  have hf := okP_fit p hp
  obtain ⟨pk, pn, pm, pc, pd, pt⟩ := p
  simp only at hn hf
  rcases hn with rfl | rfl | rfl | rfl | rfl | rfl | rfl
  · exact ⟨Int.le_refl 0, show (0 : Int) ≤ 255 by decide⟩
  · rw [fit1] at hf
    simp only [Bool.and_eq_true, attr, decide_eq_true_eq] at hf
    have := or_all ⟨s.a.toNat, by omega⟩ pm (by rcases hf.2 with rfl | rfl | rfl | rfl | rfl | rfl | rfl | rfl <;> simp)
    simp only [Int.toNat_of_nonneg h0] at this
    exact this
  · have hm := fit_clear pm pc pd hf
    have := not_all ⟨s.a.toNat, by omega⟩ pm (by rcases hm with rfl | rfl | rfl | rfl | rfl | rfl | rfl <;> simp)
    simp only [Int.toNat_of_nonneg h0] at this
    exact this
  all_goals exact ⟨h0, h1⟩
theorem errS_range (s : S8) (h : errS s = 0) : 0 ≤ s.a ∧ s.a ≤ 255 := by
  unfold errS at h
  split at h
  · rename_i h1
    simp only [inR, decide_eq_true_eq] at h1
    exact ⟨h1.1, h1.2.1⟩
  · cases h
theorem grown8 (w : World) (b : Nat) (s : S8) : w.grownBy ((((((((w.setCell ⟨b, 0, none⟩ (.int .i64 s.a)).setCell ⟨b, 1, none⟩ (.int .i64 s.u)).setCell ⟨b, 2, none⟩ (.int .i64 s.f0)).setCell ⟨b, 3, none⟩ (.int .i64 s.f1)).setCell ⟨b, 4, none⟩ (.int .i64 s.b0)).setCell ⟨b, 5, none⟩ (.int .i64 s.b1)).setCell ⟨b, 6, none⟩ (.int .i64 s.l0)).setCell ⟨b, 7, none⟩ (.int .i64 s.l1)) (some b) := grown_put b (cS s) 0 w
theorem rcheck_s (s : S8) (w : World) : Calls Tryd.prog 13 #[.agg #[.int .i64 s.a, .int .i64 s.u, .int .i64 s.f0, .int .i64 s.f1, .int .i64 s.b0, .int .i64 s.b1, .int .i64 s.l0, .int .i64 s.l1]] w fun e w' => e = .returned (.int .i64 (errS s)) ∧ Below w.heap.size w w' := rcheck_any s.a s.u s.f0 s.f1 s.b0 s.b1 s.l0 s.l1 w
theorem rpen_r (s : S8) (p : P6) (r : S8) (hr : app s p = r) (hp : okP p = true) (ha : 0 ≤ s.a) (hb : s.a ≤ 255) (w : World) : Calls Tryd.prog 35 #[.agg #[.int .i64 s.a, .int .i64 s.u, .int .i64 s.f0, .int .i64 s.f1, .int .i64 s.b0, .int .i64 s.b1, .int .i64 s.l0, .int .i64 s.l1], .agg #[.int .i64 p.k, .int .i64 p.n, .int .i64 p.m, .int .i64 p.c0, .int .i64 p.c1, .string p.t]] w fun e w' => e = .returned (.agg #[.int .i64 r.a, .int .i64 r.u, .int .i64 r.f0, .int .i64 r.f1, .int .i64 r.b0, .int .i64 r.b1, .int .i64 r.l0, .int .i64 r.l1]) ∧ Below w.heap.size w w' := by
  subst hr; exact rpen_yes s p hp ha hb w
set_option maxRecDepth 100000 in
set_option maxHeartbeats 4000000 in
theorem rrun_any (s : S8) (A : Option Addr) (ps : List P6) (c : Nat) (w : World) (hr : RdP w A ps) (hn : ps.length ≤ 1000000) : Calls Tryd.prog 18 #[stV s, .slice A ps.length c] w fun e w' => e = .returned (runT s ps) ∧ Below w.heap.size w w' := by
  have HR := Lib.hid hr; clear hr
  unfold stV
  by_cases hs : errS s = 0
  · have Hg := Lib.hid (errS_range s hs)
    have Hs := Lib.hid hs; clear hs
    go_enter Tryd.func18, Tryd.ntmps18
    go_wp2_with fail
    refine (rcheck_s s _).mono ?_
    rw [Hs.out]
    rintro e w1 ⟨rfl, hb1⟩
    have hB0 : Box w1 w.heap.size (cS s) := ((Box.new w _ 25).alloc _).keep hb1
    have hC0 : Box w1 (w.heap.size + 1) (cS z8) := (Box.of (alloc1_at w (.cells #[.int .i64 s.a, .int .i64 s.u, .int .i64 s.f0, .int .i64 s.f1, .int .i64 s.b0, .int .i64 s.b1, .int .i64 s.l0, .int .i64 s.l1] 25) (.cells #[.int .i64 0, .int .i64 0, .int .i64 0, .int .i64 0, .int .i64 0, .int .i64 0, .int .i64 0, .int .i64 0] 25))).keep hb1
    have hW0 : Below w.heap.size w w1 := (two_boxes w _ _).trans (hb1.mono (by simp; omega))
    have HI := Lib.hid (And.intro hW0 (And.intro hB0 hC0))
    clear hb1 hB0 hC0 hW0
    go_wp2_with fail
    go_loopw [7] (fun i wr => ∃ k : Nat, k ≤ ps.length ∧ i = .int .i64 k ∧ Hid (∃ t, runP s (ps.take k) = some t ∧ (0 ≤ t.a ∧ t.a ≤ 255) ∧ Below w.heap.size w wr ∧ Box wr w.heap.size (cS t) ∧ Box wr (w.heap.size + 1) (cS z8))) (fun i _ => ps.length - (intOf i).toNat)
    case atStart => exact ⟨0, by omega, rfl, Lib.hid ⟨s, rfl, Hg.out, HI.out.1, HI.out.2.1, HI.out.2.2⟩⟩
    case round =>
      clear HI
      obtain ⟨k, hk, rfl, hid⟩ := hrel
      obtain ⟨t, ht, hg, hW, hB, hC⟩ := hid.out
      clear hid
      by_cases hkn : k < ps.length
      · obtain ⟨p, hp⟩ : ∃ p, ps[k]? = some p := ⟨_, List.getElem?_eq_getElem hkn⟩
        have Ht := Lib.hid (runP_take s ps k p hp t ht); clear ht
        obtain ⟨b, o, rfl, hbl, hrg⟩ := HR.out k p hp
        have e1 := fun W => ix_run b o ps.length c k hkn W
        have hrg' : wr.rangeAt b (o + k * 6) (cP p) := fun i v hv => (hW.cell (p := ⟨b, o + k * 6 + i, none⟩) hbl).trans (hrg i v hv)
        have y0 : wr.cell? ⟨b, o + k * 6, none⟩ = some (.int .i64 p.k) := hrg' 0 _ rfl
        have y1 : wr.cell? ⟨b, o + k * 6 + 1, none⟩ = some (.int .i64 p.n) := hrg' 1 _ rfl
        have y2 : wr.cell? ⟨b, o + k * 6 + 2, none⟩ = some (.int .i64 p.m) := hrg' 2 _ rfl
        have y3 : wr.cell? ⟨b, o + k * 6 + 3, none⟩ = some (.int .i64 p.c0) := hrg' 3 _ rfl
        have y4 : wr.cell? ⟨b, o + k * 6 + 4, none⟩ = some (.int .i64 p.c1) := hrg' 4 _ rfl
        have y5 : wr.cell? ⟨b, o + k * 6 + 5, none⟩ = some (.string p.t) := hrg' 5 _ rfl
        have hbw : b < wr.heap.size := Nat.lt_of_lt_of_le hbl hW.size
        clear hrg hrg'
        have hlt : (k : Int) < (ps.length : Int) := by omega
        go_wp2_with fail
        obtain ⟨y, hy⟩ : ∃ y, okP p = y := ⟨_, rfl⟩
        cases y
        · refine (rcheckPen_is p 141 (by unfold errP; rw [hy]; rfl) _).mono ?_
          rintro e w4 ⟨rfl, hb4⟩
          have Hf := Lib.hid (runT_none s ps Hs.out (runP_bad s ps (k + 1) (by rw [Ht.out, hy]; rfl)))
          have hC4 := hC.keep hb4
          have HW := Lib.hid (hW.trans (hb4.mono hW.size))
          clear hb4 hW hB hC hg hy Ht e1 y0 y1 y2 y3 y4 y5
          have hlC := hC4.1
          have xC0 := (hC4).cell 0 _ rfl
          have vC0 := (hC4).free 0 (by show 0 < 8; decide)
          have xC1 := (hC4).cell 1 _ rfl
          have vC1 := (hC4).free 1 (by show 1 < 8; decide)
          have xC2 := (hC4).cell 2 _ rfl
          have vC2 := (hC4).free 2 (by show 2 < 8; decide)
          have xC3 := (hC4).cell 3 _ rfl
          have vC3 := (hC4).free 3 (by show 3 < 8; decide)
          have xC4 := (hC4).cell 4 _ rfl
          have vC4 := (hC4).free 4 (by show 4 < 8; decide)
          have xC5 := (hC4).cell 5 _ rfl
          have vC5 := (hC4).free 5 (by show 5 < 8; decide)
          have xC6 := (hC4).cell 6 _ rfl
          have vC6 := (hC4).free 6 (by show 6 < 8; decide)
          have xC7 := (hC4).cell 7 _ rfl
          have vC7 := (hC4).free 7 (by show 7 < 8; decide)
          have HC := Lib.hid hC4
          clear hC4
          go_wp2
          refine bodyPost_ret (ret_cell rfl _ _ ⟨w.heap.size + 1, 0, none⟩ _ rfl (load_sty _ _ z8 (put8 w4 _ z8 z8 HC.out))) rfl ?_
          exact ⟨by rw [Hf.out]; rfl, below8 _ z8 HW.out (by omega)⟩
        · refine (rcheckPen_is p 0 (by unfold errP; rw [hy]; rfl) _).mono ?_
          rintro e w4 ⟨rfl, hb4⟩
          have Hq := Lib.hid (show runP s (ps.take (k + 1)) = some (app t p) by rw [Ht.out, hy]; rfl)
          have Hg2 := Lib.hid (app_in t p hy hg.1 hg.2)
          have HY := Lib.hid hy
          have HG := Lib.hid hg
          have hC4 := Lib.hid (hC.keep hb4)
          have hB4 := hB.keep hb4
          have hW4 := Lib.hid (hW.trans (hb4.mono hW.size))
          have z0 := (hb4.cell (p := ⟨b, o + k * 6, none⟩) hbw).trans y0
          have z1 := (hb4.cell (p := ⟨b, o + k * 6 + 1, none⟩) hbw).trans y1
          have z2 := (hb4.cell (p := ⟨b, o + k * 6 + 2, none⟩) hbw).trans y2
          have z3 := (hb4.cell (p := ⟨b, o + k * 6 + 3, none⟩) hbw).trans y3
          have z4 := (hb4.cell (p := ⟨b, o + k * 6 + 4, none⟩) hbw).trans y4
          have z5 := (hb4.cell (p := ⟨b, o + k * 6 + 5, none⟩) hbw).trans y5
          have hb44 := Nat.lt_of_lt_of_le hbw hb4.size
          clear hb4 hW hB hC hg hy Ht y0 y1 y2 y3 y4 y5
          have hlB := hB4.1
          have xB0 := (hB4).cell 0 _ rfl
          have vB0 := (hB4).free 0 (by show 0 < 8; decide)
          have xB1 := (hB4).cell 1 _ rfl
          have vB1 := (hB4).free 1 (by show 1 < 8; decide)
          have xB2 := (hB4).cell 2 _ rfl
          have vB2 := (hB4).free 2 (by show 2 < 8; decide)
          have xB3 := (hB4).cell 3 _ rfl
          have vB3 := (hB4).free 3 (by show 3 < 8; decide)
          have xB4 := (hB4).cell 4 _ rfl
          have vB4 := (hB4).free 4 (by show 4 < 8; decide)
          have xB5 := (hB4).cell 5 _ rfl
          have vB5 := (hB4).free 5 (by show 5 < 8; decide)
          have xB6 := (hB4).cell 6 _ rfl
          have vB6 := (hB4).free 6 (by show 6 < 8; decide)
          have xB7 := (hB4).cell 7 _ rfl
          have vB7 := (hB4).free 7 (by show 7 < 8; decide)
          have HB := Lib.hid hB4
          clear hB4
          obtain ⟨r, hr⟩ : ∃ r, app t p = r := ⟨_, rfl⟩
          have HRr := Lib.hid hr
          rw [hr] at Hq Hg2
          clear hr
          go_wp2_with fail
          have hG : Below w4.heap.size w4 w4.drew := (Below.refl _ w4).drew
          go_region_with (go_at_call 35; refine (rpen_r t p r HRr.out HY.out HG.out.1 HG.out.2 _).mono ?_; rintro e w5 ⟨rfl, hb5⟩; have hB5 := (HB.out.keep hG).keep hb5; have HB5 := Lib.hid hB5; have hl5 := hB5.1; have q0 := hB5.cell 0 _ rfl; have f0 := hB5.free 0 (by show 0 < 8; decide); have q1 := hB5.cell 1 _ rfl; have f1 := hB5.free 1 (by show 1 < 8; decide); have q2 := hB5.cell 2 _ rfl; have f2 := hB5.free 2 (by show 2 < 8; decide); have q3 := hB5.cell 3 _ rfl; have f3 := hB5.free 3 (by show 3 < 8; decide); have q4 := hB5.cell 4 _ rfl; have f4 := hB5.free 4 (by show 4 < 8; decide); have q5 := hB5.cell 5 _ rfl; have f5 := hB5.free 5 (by show 5 < 8; decide); have q6 := hB5.cell 6 _ rfl; have f6 := hB5.free 6 (by show 6 < 8; decide); have q7 := hB5.cell 7 _ rfl; have f7 := hB5.free 7 (by show 7 < 8; decide); clear hB5)
          all_goals
            have hb6 := hG.trans (hb5.mono hG.size)
            have hC6 := hC4.out.keep hb6
            have hW6 := hW4.out.trans (hb6.mono hW4.out.size)
            have HJ := Lib.hid (And.intro (below8 w.heap.size r hW6 (Nat.le_refl _)) (And.intro (put8 w5 w.heap.size r t HB5.out) (hC6.grown (grown8 w5 w.heap.size r) (by simp))))
            clear hb6 hC6 hW6 hb5 hG e1 hl5 q0 f0 q1 f1 q2 f2 q3 f3 q4 f4 q5 f5 q6 f6 q7 f7
            clear xB0 vB0 xB1 vB1 xB2 vB2 xB3 vB3 xB4 vB4 xB5 vB5 xB6 vB6 xB7 vB7 z0 z1 z2 z3 z4 z5
            go_wp2
            go_roundw
            case rel => exact ⟨k + 1, by omega, rfl, Lib.hid ⟨r, Hq.out, Hg2.out, HJ.out.1, HJ.out.2.1, HJ.out.2.2⟩⟩
            case measure => simp [intOf]; omega
      · obtain rfl : k = ps.length := by omega
        have Hf := Lib.hid (runT_some s ps Hs.out t (by rw [List.take_length] at ht; exact ht))
        have hlB := hB.1
        have hlC := hC.1
        have xB0 := (hB).cell 0 _ rfl
        have xB1 := (hB).cell 1 _ rfl
        have xB2 := (hB).cell 2 _ rfl
        have xB3 := (hB).cell 3 _ rfl
        have xB4 := (hB).cell 4 _ rfl
        have xB5 := (hB).cell 5 _ rfl
        have xB6 := (hB).cell 6 _ rfl
        have xB7 := (hB).cell 7 _ rfl
        have xC0 := (hC).cell 0 _ rfl
        have vC0 := (hC).free 0 (by show 0 < 8; decide)
        have xC1 := (hC).cell 1 _ rfl
        have vC1 := (hC).free 1 (by show 1 < 8; decide)
        have xC2 := (hC).cell 2 _ rfl
        have vC2 := (hC).free 2 (by show 2 < 8; decide)
        have xC3 := (hC).cell 3 _ rfl
        have vC3 := (hC).free 3 (by show 3 < 8; decide)
        have xC4 := (hC).cell 4 _ rfl
        have vC4 := (hC).free 4 (by show 4 < 8; decide)
        have xC5 := (hC).cell 5 _ rfl
        have vC5 := (hC).free 5 (by show 5 < 8; decide)
        have xC6 := (hC).cell 6 _ rfl
        have vC6 := (hC).free 6 (by show 6 < 8; decide)
        have xC7 := (hC).cell 7 _ rfl
        have vC7 := (hC).free 7 (by show 7 < 8; decide)
        have HC := Lib.hid hC
        have HW := Lib.hid hW
        clear hB hC hW ht hg
        go_wp2
        refine bodyPost_ret (ret_cell rfl _ _ ⟨w.heap.size + 1, 0, none⟩ _ rfl (load_sty _ _ t (put8 wr _ t z8 HC.out))) rfl ?_
        exact ⟨by rw [Hf.out]; rfl, below8 _ t HW.out (by omega)⟩
  · have Hf := Lib.hid (runT_bad s ps hs)
    have d0 : (errS s != 0) = true := by simpa using hs
    clear hs
    go_enter Tryd.func18, Tryd.ntmps18
    go_wp2_with fail
    refine (rcheck_s s _).mono ?_
    rintro e w1 ⟨rfl, hb1⟩
    have hC0 : Box w1 (w.heap.size + 1) (cS z8) := (Box.of (alloc1_at w (.cells #[.int .i64 s.a, .int .i64 s.u, .int .i64 s.f0, .int .i64 s.f1, .int .i64 s.b0, .int .i64 s.b1, .int .i64 s.l0, .int .i64 s.l1] 25) (.cells #[.int .i64 0, .int .i64 0, .int .i64 0, .int .i64 0, .int .i64 0, .int .i64 0, .int .i64 0, .int .i64 0] 25))).keep hb1
    have hW0 := Lib.hid (show Below w.heap.size w w1 from (two_boxes w _ _).trans (hb1.mono (by simp; omega)))
    clear hb1
    have hlC := hC0.1
    have xC0 := (hC0).cell 0 _ rfl
    have vC0 := (hC0).free 0 (by show 0 < 8; decide)
    have xC1 := (hC0).cell 1 _ rfl
    have vC1 := (hC0).free 1 (by show 1 < 8; decide)
    have xC2 := (hC0).cell 2 _ rfl
    have vC2 := (hC0).free 2 (by show 2 < 8; decide)
    have xC3 := (hC0).cell 3 _ rfl
    have vC3 := (hC0).free 3 (by show 3 < 8; decide)
    have xC4 := (hC0).cell 4 _ rfl
    have vC4 := (hC0).free 4 (by show 4 < 8; decide)
    have xC5 := (hC0).cell 5 _ rfl
    have vC5 := (hC0).free 5 (by show 5 < 8; decide)
    have xC6 := (hC0).cell 6 _ rfl
    have vC6 := (hC0).free 6 (by show 6 < 8; decide)
    have xC7 := (hC0).cell 7 _ rfl
    have vC7 := (hC0).free 7 (by show 7 < 8; decide)
    have HC := Lib.hid hC0
    clear hC0
    generalize errS s = x at d0 Hf ⊢
    go_wp2
    refine bodyPost_ret (ret_cell rfl _ _ ⟨w.heap.size + 1, 0, none⟩ _ rfl (load_sty _ _ z8 (put8 w1 _ z8 z8 HC.out))) rfl ?_
    exact ⟨by rw [Hf.out]; rfl, below8 _ z8 hW0.out (by omega)⟩
end Go.Proofs.YtokjjeekkfefmaaDoor.Sty
