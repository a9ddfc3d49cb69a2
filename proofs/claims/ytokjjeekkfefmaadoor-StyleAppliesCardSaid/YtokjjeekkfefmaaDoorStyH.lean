/-
  Contracts of the style package's Run and Apply.
-/
import Derived.Test.YtokjjeekkfefmaaDoorStyG
namespace Go.Proofs.YtokjjeekkfefmaaDoor.Sty
open Go.RowKit Utf Col

def stV (s : S8) : Value := .agg #[.int .i64 s.a, .int .i64 s.u, .int .i64 s.f0, .int .i64 s.f1, .int .i64 s.b0, .int .i64 s.b1, .int .i64 s.l0, .int .i64 s.l1]
theorem check_s (s : S8) (w : World) (h : Tl w) : Calls Tryd.prog 12 #[.agg #[.int .i64 s.a, .int .i64 s.u, .int .i64 s.f0, .int .i64 s.f1, .int .i64 s.b0, .int .i64 s.b1, .int .i64 s.l0, .int .i64 s.l1]] w fun e w' => e = .returned (.int .i64 (errS s)) ∧ Below w.heap.size w w' := check_any s.a s.u s.f0 s.f1 s.b0 s.b1 s.l0 s.l1 w h
theorem checkPen_p (p : P6) (w : World) (h : Tl w) : Calls Tryd.prog 14 #[.agg #[.int .i64 p.k, .int .i64 p.n, .int .i64 p.m, .int .i64 p.c0, .int .i64 p.c1, .string p.t]] w fun e w' => e = .returned (.int .i64 (errP p)) ∧ Below w.heap.size w w' := checkPen_any p.k p.n p.m p.c0 p.c1 p.t w h
theorem ret_cell {P : Program} {fn : Func} {p u : Tmp} {ty : TypeId} (h : fn.results = #[.cell p ty, .tmp u]) (tmps : Array Value) (w : World) (a : Addr) (v : Value) (ha : tmps.getD p undef = .pointer (some a)) (hl : (loadVar ty a).run P w = .ok v w) :
    (results fn tmps).run P w = .ok (.tuple #[v, tmps.getD u undef]) w := by
  rw [results_cell_tmp h, ha]
  simp [asAddr, hl, Result.andThen]
theorem put8 (w : World) (b : Nat) (s t : S8) (h : Box w b (cS t)) : Box ((((((((w.setCell ⟨b, 0, none⟩ (.int .i64 s.a)).setCell ⟨b, 1, none⟩ (.int .i64 s.u)).setCell ⟨b, 2, none⟩ (.int .i64 s.f0)).setCell ⟨b, 3, none⟩ (.int .i64 s.f1)).setCell ⟨b, 4, none⟩ (.int .i64 s.b0)).setCell ⟨b, 5, none⟩ (.int .i64 s.b1)).setCell ⟨b, 6, none⟩ (.int .i64 s.l0)).setCell ⟨b, 7, none⟩ (.int .i64 s.l1)) b (cS s) := Box.put (ds := cS s) h rfl
theorem below8 {B : Nat} {a w : World} (b : Nat) (s : S8) (h : Below B a w) (hb : B ≤ b) : Below B a ((((((((w.setCell ⟨b, 0, none⟩ (.int .i64 s.a)).setCell ⟨b, 1, none⟩ (.int .i64 s.u)).setCell ⟨b, 2, none⟩ (.int .i64 s.f0)).setCell ⟨b, 3, none⟩ (.int .i64 s.f1)).setCell ⟨b, 4, none⟩ (.int .i64 s.b0)).setCell ⟨b, 5, none⟩ (.int .i64 s.b1)).setCell ⟨b, 6, none⟩ (.int .i64 s.l0)).setCell ⟨b, 7, none⟩ (.int .i64 s.l1)) := ((((((((h.setCell (p := ⟨b, 0, none⟩) hb _).setCell (p := ⟨b, 1, none⟩) hb _).setCell (p := ⟨b, 2, none⟩) hb _).setCell (p := ⟨b, 3, none⟩) hb _).setCell (p := ⟨b, 4, none⟩) hb _).setCell (p := ⟨b, 5, none⟩) hb _).setCell (p := ⟨b, 6, none⟩) hb _).setCell (p := ⟨b, 7, none⟩) hb _)
def runT (s : S8) (l : List P6) : Value := .tuple #[stV (runV s l), .int .i64 (runE s l)]
theorem runT_bad (s : S8) (l : List P6) (h : errS s ≠ 0) : runT s l = .tuple #[stV z8, .int .i64 (errS s)] := by
  unfold runT runV runE; rw [if_neg h, if_neg h]
theorem runT_none (s : S8) (l : List P6) (h : errS s = 0) (hr : runP s l = none) : runT s l = .tuple #[stV z8, .int .i64 141] := by
  unfold runT runV runE; rw [if_pos h, if_pos h, hr]; rfl
theorem runT_some (s : S8) (l : List P6) (h : errS s = 0) (t : S8) (hr : runP s l = some t) : runT s l = .tuple #[stV t, .int .i64 0] := by
  unfold runT runV runE; rw [if_pos h, if_pos h, hr]; rfl
/-- what stands while Run goes over its pens -/
def RunI (w wr : World) (B C q M : Nat) (s : S8) : Prop :=
  Below w.heap.size w wr ∧ Box wr B (cS s) ∧ Box wr C (cS z8) ∧ q < wr.heap.size ∧ wr.cell? ⟨q, 0, none⟩ = some (.pointer (some ⟨B, 0, none⟩)) ∧ wr.heap[M]? = some (.map (ent ⟨q, 0, none⟩) 7)
theorem RunI.keep {w wr w' : World} {B C q M : Nat} {s : S8} (h : RunI w wr B C q M s) (hb : Below wr.heap.size wr w') : RunI w w' B C q M s := by
  obtain ⟨h1, h2, h3, h4, h5, h6⟩ := h
  exact ⟨h1.trans (hb.mono h1.size), h2.keep hb, h3.keep hb, Nat.lt_of_lt_of_le h4 hb.size, (hb.cell (p := ⟨q, 0, none⟩) h4).trans h5, (hb.block M (Array.getElem?_eq_some_iff.1 h6).1).trans h6⟩
theorem RunI.eff {w wr w' : World} {B C q M : Nat} {s t : S8} (h : RunI w wr B C q M s) (hB : w.heap.size ≤ B) (hBC : B ≠ C) (hBq : B ≠ q) (hBM : B ≠ M) (e : Ending) (hp : EffPost wr B t e w') : RunI w w' B C q M t := by
  obtain ⟨h1, h2, h3, h4, h5, h6⟩ := h
  obtain ⟨_, k2, k3⟩ := hp
  refine ⟨below_grown h1 k3 hB h1.size, k2, h3.grown k3 (fun e => by injection e with e; exact hBC e.symm), Nat.lt_of_lt_of_le h4 k3.size, ?_, ?_⟩
  · exact k3.cell h5 (fun e => by injection e with e; exact hBq e.symm)
  · exact (k3.block M (Array.getElem?_eq_some_iff.1 h6).1 (fun e => by injection e with e; exact hBM e.symm)).trans h6
set_option maxRecDepth 100000 in
set_option maxHeartbeats 4000000 in
theorem run_any (s : S8) (A : Option Addr) (ps : List P6) (c : Nat) (w : World) (h : Tl w) (hr : RdP w A ps) (hn : ps.length ≤ 1000000) : Calls Tryd.prog 17 #[stV s, .slice A ps.length c] w fun e w' => e = .returned (runT s ps) ∧ Below w.heap.size w w' := by
  have H := Lib.hid h; clear h
  have HR := Lib.hid hr; clear hr
  unfold stV
  by_cases hs : errS s = 0
  · have Hs := Lib.hid hs; clear hs
    go_enter Tryd.func17, Tryd.ntmps17
    go_wp2_with fail
    refine (check_s s _ ((H.out).keep ((below_box w _).alloc (by simp) _))).mono ?_
    rw [Hs.out]
    rintro e w1 ⟨rfl, hb1⟩
    go_wp2_with fail
    refine (effects_any _ _).mono ?_
    rintro e w2 ⟨rfl, rfl⟩
    have hz1 := hb1.size
    have k0 : w.heap.size + 1 + 1 ≤ w1.heap.size := by simpa using hz1
    have hB0 : Box w1 w.heap.size (cS s) := ((Box.new w _ 25).alloc _).keep hb1
    have hC0 : Box w1 (w.heap.size + 1) (cS z8) := by
      have := Box.new (w.alloc (.cells #[.int .i64 s.a, .int .i64 s.u, .int .i64 s.f0, .int .i64 s.f1, .int .i64 s.b0, .int .i64 s.b1, .int .i64 s.l0, .int .i64 s.l1] 25)) #[.int .i64 0, .int .i64 0, .int .i64 0, .int .i64 0, .int .i64 0, .int .i64 0, .int .i64 0, .int .i64 0] 25
      rw [show (w.alloc (.cells #[.int .i64 s.a, .int .i64 s.u, .int .i64 s.f0, .int .i64 s.f1, .int .i64 s.b0, .int .i64 s.b1, .int .i64 s.l0, .int .i64 s.l1] 25)).heap.size = w.heap.size + 1 by simp] at this
      exact this.keep hb1
    have hW0 : Below w.heap.size w w1 := ((below_box w _).alloc (by simp) _).trans (hb1.mono (by simp; omega))
    have I0 : RunI w ((w1.alloc (.cells #[.pointer (some ⟨w.heap.size, 0, none⟩)] 67)).alloc (.map (ent ⟨w1.heap.size, 0, none⟩) 7)) w.heap.size (w.heap.size + 1) w1.heap.size (w1.heap.size + 1) s := by
      refine ⟨(hW0.alloc (by omega) _).alloc (by simp; omega) _, (hB0.alloc _).alloc _, (hC0.alloc _).alloc _, by simp; omega, ?_, alloc1_at _ _ _⟩
      exact ((Box.new w1 #[.pointer (some ⟨w.heap.size, 0, none⟩)] 67).alloc _).cell 0 _ rfl
    generalize (w1.alloc (.cells #[.pointer (some ⟨w.heap.size, 0, none⟩)] 67)).alloc (.map (ent ⟨w1.heap.size, 0, none⟩) 7) = w2 at I0 ⊢
    have kq : w.heap.size ≠ w1.heap.size := by omega
    have kM : w.heap.size ≠ w1.heap.size + 1 := by omega
    clear hb1 hz1 hB0 hC0 hW0
    generalize w1.heap.size = q at I0 k0 kq kM ⊢
    have HI := Lib.hid I0; clear I0
    go_wp2_with fail
    go_loopw [20] (fun i wr => ∃ k : Nat, k ≤ ps.length ∧ i = .int .i64 k ∧ Hid (∃ t, runP s (ps.take k) = some t ∧ RunI w wr w.heap.size (w.heap.size + 1) q (q + 1) t)) (fun i _ => ps.length - (intOf i).toNat)
    case atStart => exact ⟨0, by omega, rfl, Lib.hid ⟨s, rfl, HI.out⟩⟩
    case round =>
      clear HI
      obtain ⟨k, hk, rfl, hid⟩ := hrel
      obtain ⟨t, ht, I1⟩ := hid.out
      clear hid
      by_cases hkn : k < ps.length
      · obtain ⟨p, hp⟩ : ∃ p, ps[k]? = some p := ⟨_, List.getElem?_eq_getElem hkn⟩
        have Ht := Lib.hid (runP_take s ps k p hp t ht); clear ht
        obtain ⟨b, o, rfl, hbl, hrg⟩ := HR.out k p hp
        have e1 := fun W => ix_run b o ps.length c k hkn W
        have hrg' : wr.rangeAt b (o + k * 6) (cP p) := fun i v hv => (I1.1.cell (p := ⟨b, o + k * 6 + i, none⟩) hbl).trans (hrg i v hv)
        have y0 : wr.cell? ⟨b, o + k * 6, none⟩ = some (.int .i64 p.k) := hrg' 0 _ rfl
        have y1 : wr.cell? ⟨b, o + k * 6 + 1, none⟩ = some (.int .i64 p.n) := hrg' 1 _ rfl
        have y2 : wr.cell? ⟨b, o + k * 6 + 2, none⟩ = some (.int .i64 p.m) := hrg' 2 _ rfl
        have y3 : wr.cell? ⟨b, o + k * 6 + 3, none⟩ = some (.int .i64 p.c0) := hrg' 3 _ rfl
        have y4 : wr.cell? ⟨b, o + k * 6 + 4, none⟩ = some (.int .i64 p.c1) := hrg' 4 _ rfl
        have y5 : wr.cell? ⟨b, o + k * 6 + 5, none⟩ = some (.string p.t) := hrg' 5 _ rfl
        clear hrg hrg'
        have hlt : (k : Int) < (ps.length : Int) := by omega
        have HI := Lib.hid I1
        have hsz := I1.1.size
        clear I1
        go_wp2_with fail
        have I2 := HI.out.keep (below_box wr (.cells #[.int .i64 p.k, .int .i64 p.n, .int .i64 p.m, .int .i64 p.c0, .int .i64 p.c1, .string p.t] 27))
        have hP : Box (wr.alloc (.cells #[.int .i64 p.k, .int .i64 p.n, .int .i64 p.m, .int .i64 p.c0, .int .i64 p.c1, .string p.t] 27)) wr.heap.size (cP p) := Box.new wr _ _
        generalize wr.alloc (.cells #[.int .i64 p.k, .int .i64 p.n, .int .i64 p.m, .int .i64 p.c0, .int .i64 p.c1, .string p.t] 27) = w3 at I2 hP ⊢
        generalize wr.heap.size = D at hP ⊢
        clear HI e1 hsz y0 y1 y2 y3 y4 y5
        refine (checkPen_p p _ ((H.out).keep I2.1)).mono ?_
        rintro e w4 ⟨rfl, hb4⟩
        have I4 := I2.keep hb4
        have P4 := hP.keep hb4
        clear I2 hP hb4
        obtain ⟨y, hy⟩ : ∃ y, okP p = y := ⟨_, rfl⟩
        cases y
        · have He := Lib.hid (show errP p = 141 by unfold errP; rw [hy]; rfl)
          have Hf := Lib.hid (runT_none s ps Hs.out (runP_bad s ps (k + 1) (by rw [Ht.out, hy]; rfl)))
          rw [He.out]
          have hlC := I4.2.2.1.1
          have xC0 := (I4.2.2.1).cell 0 _ rfl
          have vC0 := (I4.2.2.1).free 0 (by show 0 < 8; decide)
          have xC1 := (I4.2.2.1).cell 1 _ rfl
          have vC1 := (I4.2.2.1).free 1 (by show 1 < 8; decide)
          have xC2 := (I4.2.2.1).cell 2 _ rfl
          have vC2 := (I4.2.2.1).free 2 (by show 2 < 8; decide)
          have xC3 := (I4.2.2.1).cell 3 _ rfl
          have vC3 := (I4.2.2.1).free 3 (by show 3 < 8; decide)
          have xC4 := (I4.2.2.1).cell 4 _ rfl
          have vC4 := (I4.2.2.1).free 4 (by show 4 < 8; decide)
          have xC5 := (I4.2.2.1).cell 5 _ rfl
          have vC5 := (I4.2.2.1).free 5 (by show 5 < 8; decide)
          have xC6 := (I4.2.2.1).cell 6 _ rfl
          have vC6 := (I4.2.2.1).free 6 (by show 6 < 8; decide)
          have xC7 := (I4.2.2.1).cell 7 _ rfl
          have vC7 := (I4.2.2.1).free 7 (by show 7 < 8; decide)
          have HI := Lib.hid I4
          clear I4 P4 hy Ht
          go_wp2
          refine bodyPost_ret (ret_cell rfl _ _ ⟨w.heap.size + 1, 0, none⟩ _ rfl (load_sty _ _ z8 (put8 w4 _ z8 z8 HI.out.2.2.1))) rfl ?_
          exact ⟨by rw [Hf.out]; rfl, below8 _ z8 HI.out.1 (by omega)⟩
        · have He := Lib.hid (show errP p = 0 by unfold errP; rw [hy]; rfl)
          have Hq := Lib.hid (show runP s (ps.take (k + 1)) = some (app t p) by rw [Ht.out, hy]; rfl)
          rw [He.out]
          have hn7 := okP_n p hy
          have hlD := P4.1
          have xD0 := (P4).cell 0 _ rfl
          have xD1 := (P4).cell 1 _ rfl
          have xD2 := (P4).cell 2 _ rfl
          have xD3 := (P4).cell 3 _ rfl
          have xD4 := (P4).cell 4 _ rfl
          have xD5 := (P4).cell 5 _ rfl
          have hM := I4.2.2.2.2.2
          have HI := Lib.hid I4
          clear I4 P4 hy Ht He
          obtain ⟨pk, pn, pm, pc, pd, pt⟩ := p
          simp only at hn7 xD0 xD1 xD2 xD3 xD4 xD5 ⊢
          rcases hn7 with hn7 | hn7 | hn7 | hn7 | hn7 | hn7 | hn7
          · subst hn7
            have e6 := look0 ⟨q, 0, none⟩ (q + 1) w4 hM
            clear hM
            go_wp2_with fail
            refine (eff0 pk 0 pm pc pd pt t.a t.u t.f0 t.f1 t.b0 t.b1 t.l0 t.l1 w.heap.size q w4 HI.out.2.1 HI.out.2.2.2.1 HI.out.2.2.2.2.1).mono ?_
            intro e w5 hp5
            have I5 := Lib.hid (HI.out.eff (Nat.le_refl _) (by omega) kq kM e hp5)
            obtain rfl := hp5.1
            clear hp5
            go_wp2
            go_roundw
            case rel => exact ⟨k + 1, by omega, rfl, Lib.hid ⟨_, Hq.out, I5.out⟩⟩
            case measure => simp [intOf]; omega
          · subst hn7
            have e6 := look1 ⟨q, 0, none⟩ (q + 1) w4 hM
            clear hM
            go_wp2_with fail
            refine (eff1 pk 1 pm pc pd pt t.a t.u t.f0 t.f1 t.b0 t.b1 t.l0 t.l1 w.heap.size q w4 HI.out.2.1 HI.out.2.2.2.1 HI.out.2.2.2.2.1).mono ?_
            intro e w5 hp5
            have I5 := Lib.hid (HI.out.eff (Nat.le_refl _) (by omega) kq kM e hp5)
            obtain rfl := hp5.1
            clear hp5
            go_wp2
            go_roundw
            case rel => exact ⟨k + 1, by omega, rfl, Lib.hid ⟨_, Hq.out, I5.out⟩⟩
            case measure => simp [intOf]; omega
          · subst hn7
            have e6 := look2 ⟨q, 0, none⟩ (q + 1) w4 hM
            clear hM
            go_wp2_with fail
            refine (eff2 pk 2 pm pc pd pt t.a t.u t.f0 t.f1 t.b0 t.b1 t.l0 t.l1 w.heap.size q w4 HI.out.2.1 HI.out.2.2.2.1 HI.out.2.2.2.2.1).mono ?_
            intro e w5 hp5
            have I5 := Lib.hid (HI.out.eff (Nat.le_refl _) (by omega) kq kM e hp5)
            obtain rfl := hp5.1
            clear hp5
            go_wp2
            go_roundw
            case rel => exact ⟨k + 1, by omega, rfl, Lib.hid ⟨_, Hq.out, I5.out⟩⟩
            case measure => simp [intOf]; omega
          · subst hn7
            have e6 := look3 ⟨q, 0, none⟩ (q + 1) w4 hM
            clear hM
            go_wp2_with fail
            refine (eff3 pk 3 pm pc pd pt t.a t.u t.f0 t.f1 t.b0 t.b1 t.l0 t.l1 w.heap.size q w4 HI.out.2.1 HI.out.2.2.2.1 HI.out.2.2.2.2.1).mono ?_
            intro e w5 hp5
            have I5 := Lib.hid (HI.out.eff (Nat.le_refl _) (by omega) kq kM e hp5)
            obtain rfl := hp5.1
            clear hp5
            go_wp2
            go_roundw
            case rel => exact ⟨k + 1, by omega, rfl, Lib.hid ⟨_, Hq.out, I5.out⟩⟩
            case measure => simp [intOf]; omega
          · subst hn7
            have e6 := look4 ⟨q, 0, none⟩ (q + 1) w4 hM
            clear hM
            go_wp2_with fail
            refine (eff4 pk 4 pm pc pd pt t.a t.u t.f0 t.f1 t.b0 t.b1 t.l0 t.l1 w.heap.size q w4 HI.out.2.1 HI.out.2.2.2.1 HI.out.2.2.2.2.1).mono ?_
            intro e w5 hp5
            have I5 := Lib.hid (HI.out.eff (Nat.le_refl _) (by omega) kq kM e hp5)
            obtain rfl := hp5.1
            clear hp5
            go_wp2
            go_roundw
            case rel => exact ⟨k + 1, by omega, rfl, Lib.hid ⟨_, Hq.out, I5.out⟩⟩
            case measure => simp [intOf]; omega
          · subst hn7
            have e6 := look5 ⟨q, 0, none⟩ (q + 1) w4 hM
            clear hM
            go_wp2_with fail
            refine (eff5 pk 5 pm pc pd pt t.a t.u t.f0 t.f1 t.b0 t.b1 t.l0 t.l1 w.heap.size q w4 HI.out.2.1 HI.out.2.2.2.1 HI.out.2.2.2.2.1).mono ?_
            intro e w5 hp5
            have I5 := Lib.hid (HI.out.eff (Nat.le_refl _) (by omega) kq kM e hp5)
            obtain rfl := hp5.1
            clear hp5
            go_wp2
            go_roundw
            case rel => exact ⟨k + 1, by omega, rfl, Lib.hid ⟨_, Hq.out, I5.out⟩⟩
            case measure => simp [intOf]; omega
          · subst hn7
            have e6 := look6 ⟨q, 0, none⟩ (q + 1) w4 hM
            clear hM
            go_wp2_with fail
            refine (eff6 pk 6 pm pc pd pt t.a t.u t.f0 t.f1 t.b0 t.b1 t.l0 t.l1 w.heap.size q w4 HI.out.2.1 HI.out.2.2.2.1 HI.out.2.2.2.2.1).mono ?_
            intro e w5 hp5
            have I5 := Lib.hid (HI.out.eff (Nat.le_refl _) (by omega) kq kM e hp5)
            obtain rfl := hp5.1
            clear hp5
            go_wp2
            go_roundw
            case rel => exact ⟨k + 1, by omega, rfl, Lib.hid ⟨_, Hq.out, I5.out⟩⟩
            case measure => simp [intOf]; omega
      · obtain rfl : k = ps.length := by omega
        have Hf := Lib.hid (runT_some s ps Hs.out t (by rw [List.take_length] at ht; exact ht))
        have hlB := I1.2.1.1
        have hlC := I1.2.2.1.1
        have xB0 := (I1.2.1).cell 0 _ rfl
        have xB1 := (I1.2.1).cell 1 _ rfl
        have xB2 := (I1.2.1).cell 2 _ rfl
        have xB3 := (I1.2.1).cell 3 _ rfl
        have xB4 := (I1.2.1).cell 4 _ rfl
        have xB5 := (I1.2.1).cell 5 _ rfl
        have xB6 := (I1.2.1).cell 6 _ rfl
        have xB7 := (I1.2.1).cell 7 _ rfl
        have xC0 := (I1.2.2.1).cell 0 _ rfl
        have vC0 := (I1.2.2.1).free 0 (by show 0 < 8; decide)
        have xC1 := (I1.2.2.1).cell 1 _ rfl
        have vC1 := (I1.2.2.1).free 1 (by show 1 < 8; decide)
        have xC2 := (I1.2.2.1).cell 2 _ rfl
        have vC2 := (I1.2.2.1).free 2 (by show 2 < 8; decide)
        have xC3 := (I1.2.2.1).cell 3 _ rfl
        have vC3 := (I1.2.2.1).free 3 (by show 3 < 8; decide)
        have xC4 := (I1.2.2.1).cell 4 _ rfl
        have vC4 := (I1.2.2.1).free 4 (by show 4 < 8; decide)
        have xC5 := (I1.2.2.1).cell 5 _ rfl
        have vC5 := (I1.2.2.1).free 5 (by show 5 < 8; decide)
        have xC6 := (I1.2.2.1).cell 6 _ rfl
        have vC6 := (I1.2.2.1).free 6 (by show 6 < 8; decide)
        have xC7 := (I1.2.2.1).cell 7 _ rfl
        have vC7 := (I1.2.2.1).free 7 (by show 7 < 8; decide)
        have HI := Lib.hid I1
        clear I1 ht
        go_wp2
        refine bodyPost_ret (ret_cell rfl _ _ ⟨w.heap.size + 1, 0, none⟩ _ rfl (load_sty _ _ t (put8 wr _ t z8 HI.out.2.2.1))) rfl ?_
        exact ⟨by rw [Hf.out]; rfl, below8 _ t HI.out.1 (by omega)⟩
  · have Hf := Lib.hid (runT_bad s ps hs)
    have d0 : (errS s != 0) = true := by simpa using hs
    clear hs
    go_enter Tryd.func17, Tryd.ntmps17
    go_wp2_with fail
    refine (check_s s _ ((H.out).keep ((below_box w _).alloc (by simp) _))).mono ?_
    rintro e w1 ⟨rfl, hb1⟩
    have hC0 : Box w1 (w.heap.size + 1) (cS z8) := by
      have := Box.new (w.alloc (.cells #[.int .i64 s.a, .int .i64 s.u, .int .i64 s.f0, .int .i64 s.f1, .int .i64 s.b0, .int .i64 s.b1, .int .i64 s.l0, .int .i64 s.l1] 25)) #[.int .i64 0, .int .i64 0, .int .i64 0, .int .i64 0, .int .i64 0, .int .i64 0, .int .i64 0, .int .i64 0] 25
      rw [show (w.alloc (.cells #[.int .i64 s.a, .int .i64 s.u, .int .i64 s.f0, .int .i64 s.f1, .int .i64 s.b0, .int .i64 s.b1, .int .i64 s.l0, .int .i64 s.l1] 25)).heap.size = w.heap.size + 1 by simp] at this
      exact this.keep hb1
    have hW0 := Lib.hid (show Below w.heap.size w w1 from ((below_box w _).alloc (by simp) _).trans (hb1.mono (by simp; omega)))
    clear hb1
    have hlC := hC0.1
    have xC0 := (hC0).cell 0 _ rfl
    have vC0 := (hC0).free 0 (by show 0 < 8; decide)
    have xC1 := (hC0).cell 1 _ rfl
    have vC1 := (hC0).free 1 (by show 1 < 8; decide)
    have xC2 := (hC0).cell 2 _ rfl
    have vC2 := (hC0).free 2 (by show 2 < 8; decide)
    have xC3 := (hC0).cell 3 _ rfl
    have vC3 := (hC0).free 3 (by show 3 < 8; decide)
    have xC4 := (hC0).cell 4 _ rfl
    have vC4 := (hC0).free 4 (by show 4 < 8; decide)
    have xC5 := (hC0).cell 5 _ rfl
    have vC5 := (hC0).free 5 (by show 5 < 8; decide)
    have xC6 := (hC0).cell 6 _ rfl
    have vC6 := (hC0).free 6 (by show 6 < 8; decide)
    have xC7 := (hC0).cell 7 _ rfl
    have vC7 := (hC0).free 7 (by show 7 < 8; decide)
    have HC := Lib.hid hC0
    clear hC0
    generalize errS s = x at d0 Hf ⊢
    go_wp2
    refine bodyPost_ret (ret_cell rfl _ _ ⟨w.heap.size + 1, 0, none⟩ _ rfl (load_sty _ _ z8 (put8 w1 _ z8 z8 HC.out))) rfl ?_
    exact ⟨by rw [Hf.out]; rfl, below8 _ z8 hW0.out (by omega)⟩
end Go.Proofs.YtokjjeekkfefmaaDoor.Sty
