/-
  The walk of the law StyleApplies: it returns true, whatever its arguments; nothing that lay before the call has turned.
-/
import Derived.Test.YtokjjeekkfefmaaDoorStyX
import Derived.Test.YtokjjeekkfefmaaDoorStyR
import Derived.Test.YtokjjeekkfefmaaDoorStyleKnown
import Derived.Deep.DeepCutAuto
namespace Go.Proofs.YtokjjeekkfefmaaDoor.Sty
open Go.RowKit Utf Col

theorem rrun_is (s : S8) (A : Option Addr) (ps : List P6) (n c : Nat) (hn : ps.length = n) (t : S8) (r : Int) (hv : runV s ps = t) (he : runE s ps = r) (w : World) (hr : RdP w A ps) (hm : n ≤ 1000000) : Calls Tryd.prog 18 #[.agg #[.int .i64 s.a, .int .i64 s.u, .int .i64 s.f0, .int .i64 s.f1, .int .i64 s.b0, .int .i64 s.b1, .int .i64 s.l0, .int .i64 s.l1], .slice A n c] w fun e w' => e = .returned (.tuple #[.agg #[.int .i64 t.a, .int .i64 t.u, .int .i64 t.f0, .int .i64 t.f1, .int .i64 t.b0, .int .i64 t.b1, .int .i64 t.l0, .int .i64 t.l1], .int .i64 r]) ∧ Below w.heap.size w w' := by
  subst hv he; exact rrun_t s A ps n c hn w hr hm
theorem rapply_is (s : S8) (p : P6) (t : S8) (r : Int) (hv : runV s [p] = t) (he : runE s [p] = r) (w : World) : Calls Tryd.prog 20 #[.agg #[.int .i64 s.a, .int .i64 s.u, .int .i64 s.f0, .int .i64 s.f1, .int .i64 s.b0, .int .i64 s.b1, .int .i64 s.l0, .int .i64 s.l1], .agg #[.int .i64 p.k, .int .i64 p.n, .int .i64 p.m, .int .i64 p.c0, .int .i64 p.c1, .string p.t]] w fun e w' => e = .returned (.tuple #[.agg #[.int .i64 t.a, .int .i64 t.u, .int .i64 t.f0, .int .i64 t.f1, .int .i64 t.b0, .int .i64 t.b1, .int .i64 t.l0, .int .i64 t.l1], .int .i64 r]) ∧ Below w.heap.size w w' := by
  subst hv he; exact rapply_any s p w
set_option maxRecDepth 100000 in
set_option maxHeartbeats 8000000 in
theorem applies_any (s : S8) (p : P6) (hts : p.t.size ≤ 9223372036854775807) (ds : List D8) (A : Option Addr) (n c : Nat) (hn : ds.length = n) (hc : n ≤ c ∧ c ≤ 9223372036854775807) (tt : UInt8)
    (w : World) (h : Tl w) (hr : RdD w A ds) : Calls Tryd.prog 4 #[.agg #[.int .i64 s.a, .int .i64 s.u, .int .i64 s.f0, .int .i64 s.f1, .int .i64 s.b0, .int .i64 s.b1, .int .i64 s.l0, .int .i64 s.l1], .agg #[.int .i64 p.k, .int .i64 p.n, .int .i64 p.m, .int .i64 p.c0, .int .i64 p.c1, .string p.t], .slice A n c, .int .u8 (tt.toNat : Int)] w fun e w' => e = .returned (.bool true) ∧ Below w.heap.size w w' := by
  have H := Lib.hid h; clear h
  have HR := Lib.hid hr; clear hr
  obtain ⟨N, hN, hNn, hN20⟩ : ∃ N : Nat, min (n : Int) 20 = (N : Int) ∧ N ≤ n ∧ N ≤ 20 := ⟨min n 20, by omega, by omega, by omega⟩
  have hNc : (N : Int) ≤ (c : Int) := by omega
  have HC := Lib.hid hc; clear hc
  have HN20 := Lib.hid (And.intro hNn hN20); clear hNn hN20
  go_enter Tryd.func4, Tryd.ntmps4
  go_upto_region 1 with fail
  have hA0 : Box ((w.alloc (.cells #[.int .i64 s.a, .int .i64 s.u, .int .i64 s.f0, .int .i64 s.f1, .int .i64 s.b0, .int .i64 s.b1, .int .i64 s.l0, .int .i64 s.l1] 25)).alloc (.cells #[.int .i64 p.k, .int .i64 p.n, .int .i64 p.m, .int .i64 p.c0, .int .i64 p.c1, .string p.t] 27)) w.heap.size (cS s) := (Box.new _ _ _).alloc _
  have hB0 : Box ((w.alloc (.cells #[.int .i64 s.a, .int .i64 s.u, .int .i64 s.f0, .int .i64 s.f1, .int .i64 s.b0, .int .i64 s.b1, .int .i64 s.l0, .int .i64 s.l1] 25)).alloc (.cells #[.int .i64 p.k, .int .i64 p.n, .int .i64 p.m, .int .i64 p.c0, .int .i64 p.c1, .string p.t] 27)) (w.heap.size + 1) (cP p) := Box.of (alloc1_at _ _ _)
  have hW0 : Below w.heap.size w ((w.alloc (.cells #[.int .i64 s.a, .int .i64 s.u, .int .i64 s.f0, .int .i64 s.f1, .int .i64 s.b0, .int .i64 s.b1, .int .i64 s.l0, .int .i64 s.l1] 25)).alloc (.cells #[.int .i64 p.k, .int .i64 p.n, .int .i64 p.m, .int .i64 p.c0, .int .i64 p.c1, .string p.t] 27)) := two_boxes w _ _
  have hD : w.heap.size ≠ w.heap.size + 1 ∧ w.heap.size ≤ w.heap.size + 1 := by omega
  generalize (w.alloc (.cells #[.int .i64 s.a, .int .i64 s.u, .int .i64 s.f0, .int .i64 s.f1, .int .i64 s.b0, .int .i64 s.b1, .int .i64 s.l0, .int .i64 s.l1] 25)).alloc (.cells #[.int .i64 p.k, .int .i64 p.n, .int .i64 p.m, .int .i64 p.c0, .int .i64 p.c1, .string p.t] 27) = w1 at hA0 hB0 hW0 ⊢
  generalize hBB : w.heap.size + 1 = B at hB0 hD ⊢
  have HLB := Lib.hid hD.2
  generalize hAA : w.heap.size = A0 at hA0 hD ⊢
  have HD := Lib.hid (show A0 ≠ B from hD.1)
  clear hBB hAA hD
  have HA := Lib.hid hA0
  have HB := Lib.hid hB0
  have HW := Lib.hid hW0
  clear hA0 hB0 hW0
  have x5 := HB.out.cell 5 _ rfl
  have lB := HB.out.1
  have v5 := HB.out.free 5 (by show 5 < 6; decide)
  go_upto_region 2 with fail
  clear x5 lB v5
  rename_i K hK
  have HK := Lib.hid hK
  clear hK
  generalize p.t.extract 0 (min (↑p.t.size : Int) 10).toNat = t5
  have hA := HA.out.grown (grown_set w1 B 5 (.string t5)) (by simp; exact HD.out)
  have hB : Box (w1.setCell ⟨B, 5, none⟩ (.string t5)) B (cP ⟨p.k, p.n, p.m, p.c0, p.c1, t5⟩) := HB.out.set 5 (.string t5)
  have hW := below_grown HW.out (grown_set w1 B 5 (.string t5)) HLB.out HW.out.size
  generalize w1.setCell ⟨B, 5, none⟩ (.string t5) = w2 at hA hB hW ⊢
  clear HA HB HW HD HLB
  have HA := Lib.hid hA
  have HB := Lib.hid hB
  have HW := Lib.hid hW
  clear hA hB hW
  go_wp2_with fail
  refine HK.out _ _ ?_
  clear HK
  go_wp2_with fail
  have h10 : Box (w2.alloc (.cells #[.int .i64 0, .int .i64 0, .int .i64 0, .int .i64 0, .int .i64 0, .int .i64 0, .int .i64 0, .int .i64 0] 25)) w2.heap.size (cS z8) := Box.new _ _ _
  have hF : Below w2.heap.size w2 (w2.alloc (.cells #[.int .i64 0, .int .i64 0, .int .i64 0, .int .i64 0, .int .i64 0, .int .i64 0, .int .i64 0, .int .i64 0] 25)) := below_box w2 _
  generalize w2.alloc (.cells #[.int .i64 0, .int .i64 0, .int .i64 0, .int .i64 0, .int .i64 0, .int .i64 0, .int .i64 0, .int .i64 0] 25) = w3 at h10 hF ⊢
  generalize hB10 : w2.heap.size = B10 at h10 ⊢
  have HB10 := Lib.hid hB10
  clear hB10
  have H10 := Lib.hid h10
  have HF := Lib.hid hF
  clear h10 hF
  go_loopw [9, 11] (fun v i wr => ∃ (k : Nat) (t : S8), k ≤ N ∧ i = .int .i64 k ∧ Hid (OwnP wr (B10 + 1) v ((ds.take k).map penD)) ∧ Hid (Box wr B10 (cS t)) ∧ Hid (Below w2.heap.size w2 wr)) (fun _ i _ => N - (intOf i).toNat)
  case atStart => exact ⟨0, z8, by omega, rfl, Lib.hid (World.ownsRow_nil _ _ _ _), H10, HF⟩
  case round =>
    clear HF H10
    obtain ⟨k, t, hkN, rfl, hP, h10, hF⟩ := hrel
    by_cases hk : k = N
    rotate_left
    · have hk1 : k < N := by omega
      have q1 : (k : Int) < (N : Int) := by omega
      clear hkN hk
      obtain ⟨d, hd⟩ : ∃ d, ds[k]? = some d := ⟨_, List.getElem?_eq_getElem (by have := HN20.out; omega)⟩
      have HD := Lib.hid hd
      obtain ⟨b, o', rfl, hbl, hrg⟩ := HR.out k d hd
      clear hd
      have HBL := Lib.hid hbl
      have hk2 := HW.out.trans (hF.out.mono HW.out.size)
      have e1 := fun W => ixD_run b o' N c k hk1 W
      generalize o' + k * 8 = oo at e1 hrg
      have HRG := Lib.hid hrg
      have lb : b < wr.heap.size := Nat.lt_of_lt_of_le hbl hk2.size
      have c0 : wr.cell? ⟨b, oo, none⟩ = _ := (hk2.cell (p := ⟨b, oo, none⟩) hbl).trans (hrg 0 _ rfl)
      have c1 : wr.cell? ⟨b, oo + 1, none⟩ = _ := (hk2.cell (p := ⟨b, oo + 1, none⟩) hbl).trans (hrg 1 _ rfl)
      have c2 : wr.cell? ⟨b, oo + 2, none⟩ = _ := (hk2.cell (p := ⟨b, oo + 2, none⟩) hbl).trans (hrg 2 _ rfl)
      have c3 : wr.cell? ⟨b, oo + 3, none⟩ = _ := (hk2.cell (p := ⟨b, oo + 3, none⟩) hbl).trans (hrg 3 _ rfl)
      have c4 : wr.cell? ⟨b, oo + 4, none⟩ = _ := (hk2.cell (p := ⟨b, oo + 4, none⟩) hbl).trans (hrg 4 _ rfl)
      have c5 : wr.cell? ⟨b, oo + 5, none⟩ = _ := (hk2.cell (p := ⟨b, oo + 5, none⟩) hbl).trans (hrg 5 _ rfl)
      have c6 : wr.cell? ⟨b, oo + 6, none⟩ = _ := (hk2.cell (p := ⟨b, oo + 6, none⟩) hbl).trans (hrg 6 _ rfl)
      have c7 : wr.cell? ⟨b, oo + 7, none⟩ = _ := (hk2.cell (p := ⟨b, oo + 7, none⟩) hbl).trans (hrg 7 _ rfl)
      clear hrg hbl hk2
      go_wp2_with fail
      obtain ⟨q, hq⟩ : ∃ q, penD d = q := ⟨_, rfl⟩
      have cp := pen_any d wr
      rw [hq] at cp
      refine cp.mono ?_
      rintro e wB ⟨rfl, hb⟩
      clear cp lb c0 c1 c2 c3 c4 c5 c6 c7
      have HQ := Lib.hid hq
      clear hq
      have HF2 := Lib.hid (hF.out.trans (hb.mono hF.out.size))
      have HP2 := Lib.hid (hP.out.keep hb)
      have H102 := Lib.hid (h10.out.keep hb)
      clear hb hF hP h10
      unfold pnV'
      go_wp2_with (at_builtin; refine wpList_appP _ rfl _ _ rfl (B10 + 1) _ ((ds.take k).map penD) rfl (HP2.out.keep (below_box wB _)) (some ⟨wB.heap.size, 0, none⟩) 1 1 [q] rfl rfl (RdP.one wB q 27) (fun h => by cases h) ?hl ?hb0 ?_; rotate_left 2; intro v3 w11 hown3 hb3; have HP3 := Lib.hid hown3; have HF3 := Lib.hid ((HF2.out.alloc HF2.out.size (.cells #[.int .i64 q.k, .int .i64 q.n, .int .i64 q.m, .int .i64 q.c0, .int .i64 q.c1, .string q.t] 27)).trans (hb3.mono (by rw [HB10.out]; omega))); have H103 := Lib.hid ((H102.out.alloc (.cells #[.int .i64 q.k, .int .i64 q.n, .int .i64 q.m, .int .i64 q.c0, .int .i64 q.c1, .string q.t] 27)).at hb3.size (hb3.block B10 (by omega))); clear hown3 hb3; have hk2 := HW.out.trans (HF3.out.mono HW.out.size); have lb : b < w11.heap.size := Nat.lt_of_lt_of_le HBL.out hk2.size; have c0 : w11.cell? ⟨b, oo, none⟩ = _ := (hk2.cell (p := ⟨b, oo, none⟩) HBL.out).trans (HRG.out 0 _ rfl); have c1 : w11.cell? ⟨b, oo + 1, none⟩ = _ := (hk2.cell (p := ⟨b, oo + 1, none⟩) HBL.out).trans (HRG.out 1 _ rfl); have c2 : w11.cell? ⟨b, oo + 2, none⟩ = _ := (hk2.cell (p := ⟨b, oo + 2, none⟩) HBL.out).trans (HRG.out 2 _ rfl); have c3 : w11.cell? ⟨b, oo + 3, none⟩ = _ := (hk2.cell (p := ⟨b, oo + 3, none⟩) HBL.out).trans (HRG.out 3 _ rfl); have c4 : w11.cell? ⟨b, oo + 4, none⟩ = _ := (hk2.cell (p := ⟨b, oo + 4, none⟩) HBL.out).trans (HRG.out 4 _ rfl); have c5 : w11.cell? ⟨b, oo + 5, none⟩ = _ := (hk2.cell (p := ⟨b, oo + 5, none⟩) HBL.out).trans (HRG.out 5 _ rfl); have c6 : w11.cell? ⟨b, oo + 6, none⟩ = _ := (hk2.cell (p := ⟨b, oo + 6, none⟩) HBL.out).trans (HRG.out 6 _ rfl); have c7 : w11.cell? ⟨b, oo + 7, none⟩ = _ := (hk2.cell (p := ⟨b, oo + 7, none⟩) HBL.out).trans (HRG.out 7 _ rfl); clear hk2)
      case hl => simp; have := HN20.out; omega
      case hb0 => have := H102.out.1; simp; omega
      clear HP2 HF2 H102
      obtain ⟨sd, hsd⟩ : ∃ sd, styD d = sd := ⟨_, rfl⟩
      have cs := style_any d w11
      rw [hsd] at cs
      clear hsd
      refine cs.mono ?_
      rintro e wH ⟨rfl, hb⟩
      clear cs lb c0 c1 c2 c3 c4 c5 c6 c7 e1
      have HF := Lib.hid (HF3.out.trans (hb.mono HF3.out.size))
      have HP := Lib.hid (HP3.out.keep hb)
      have h10 := H103.out.keep hb
      clear hb HF3 HP3 H103
      have l10 := h10.1
      have x10_0 := h10.cell 0 _ rfl
      have v10_0 := h10.free 0 (by show 0 < 8; decide)
      have x10_1 := h10.cell 1 _ rfl
      have v10_1 := h10.free 1 (by show 1 < 8; decide)
      have x10_2 := h10.cell 2 _ rfl
      have v10_2 := h10.free 2 (by show 2 < 8; decide)
      have x10_3 := h10.cell 3 _ rfl
      have v10_3 := h10.free 3 (by show 3 < 8; decide)
      have x10_4 := h10.cell 4 _ rfl
      have v10_4 := h10.free 4 (by show 4 < 8; decide)
      have x10_5 := h10.cell 5 _ rfl
      have v10_5 := h10.free 5 (by show 5 < 8; decide)
      have x10_6 := h10.cell 6 _ rfl
      have v10_6 := h10.free 6 (by show 6 < 8; decide)
      have x10_7 := h10.cell 7 _ rfl
      have v10_7 := h10.free 7 (by show 7 < 8; decide)
      have H10 := Lib.hid h10
      clear h10
      unfold stV
      go_wp2
      go_roundw
      case rel =>
        refine ⟨k + 1, sd, by omega, rfl, Lib.hid ?_, Lib.hid (put8 wH B10 sd t H10.out), Lib.hid (below8 B10 sd HF.out (by rw [HB10.out]; omega))⟩
        have h1 := HP.out
        rw [show (ds.take k).map penD ++ [q] = (ds.take (k + 1)).map penD by rw [List.take_add_one, HD.out]; simp [HQ.out]] at h1
        exact h1.grown (grown8 wH B10 sd) (by omega)
      case measure => simp [intOf]; omega
    · subst hk
      clear hkN
      obtain ⟨ps, hps, hpl⟩ : ∃ ps, (ds.take k).map penD = ps ∧ ps.length = k := ⟨_, rfl, by have := HN20.out; simp; omega⟩
      rw [hps] at hP
      clear hps
      obtain ⟨A9, c9, hv9, hc9, hc9m⟩ := hP.out.form
      rw [hpl] at hv9 hc9
      subst hv9
      have HPL := Lib.hid hpl
      have HW2 := Lib.hid (HW.out.trans (hF.out.mono HW.out.size))
      have hA := HA.out.keep hF.out
      have hB := HB.out.keep hF.out
      clear hc9 hc9m hpl HA HB hF HW
      have H10 := h10
      have HP := hP
      clear h10 hP
      have HA := Lib.hid hA
      have HB := Lib.hid hB
      clear hA hB
      have HO := Lib.hid (OwnP.new wr wr.heap.size (Nat.le_refl _) [] #[] rfl (by unfold maxLen; decide))
      go_upto_if 63 with (at_builtin; refine wpList_appP _ rfl _ _ rfl wr.heap.size _ [] rfl HO.out A9 k c9 ps rfl HPL.out (HP.out.rd.keep (below_box wr _)) (fun h => by subst h; exact HP.out.nil) ?hl ?hb0 ?_; rotate_left 2; intro v12 w12 hown3 hb3; have HB12 := Lib.hid ((below_box wr _).trans hb3); have hown4 : OwnP w12 wr.heap.size v12 ps := hown3; obtain ⟨A12, c12, hv12, hc12, hc12m⟩ := hown4.form; rw [HPL.out] at hv12; subst hv12; have HP12 := Lib.hid hown4; clear hown3 hown4 hb3 hc12 hc12m)
      case hl => have := HN20.out; simp; omega
      case hb0 => simp
      go_cut [12] from 25 (fun v wx => v = .slice A12 k c12 ∧ (∃ qs, Hid (qs.length = k ∧ RdP wx A12 qs)) ∧ Hid (Below wr.heap.size wr wx))
      case first =>
        by_cases hk0 : k = 0
        · subst hk0
          go_wp2_with fail
          go_meet
          case rel => exact ⟨rfl, ⟨ps, Lib.hid ⟨HPL.out, HP12.out.rd⟩⟩, HB12⟩
        · have hk1 : (0 : Int) < (k : Int) := by omega
          obtain ⟨g, rfl, hgb, hgl⟩ := HP12.out.at0 (by omega)
          obtain ⟨j, hj, hjk⟩ : ∃ j : Nat, (tt.toNat : Int).tmod (k : Int) = (j : Int) ∧ j < k := ⟨tt.toNat % k, by rw [Int.tmod_eq_emod_of_nonneg (by omega)]; rfl, Nat.mod_lt _ (by omega)⟩
          have e1 := fun W => ix_run g 0 k c12 j hjk W
          have ht := HP12.out.there (j := j) (by rw [HPL.out]; exact hjk)
          obtain ⟨oo, hoo⟩ : ∃ oo, j * 6 = oo := ⟨_, rfl⟩
          rw [show 0 + j * 6 = oo by omega] at e1
          rw [hoo] at ht
          have hB := HB.out.keep HB12.out
          have tw : IntKind.i64.wrap (tt.toNat : Int) = (tt.toNat : Int) := IntWalk.i64_in _ (by have := tt.toNat_lt; omega)
          have tk : ¬ (k : Int) = 0 := by omega
          have lg := hgl
          obtain ⟨y0, hy0⟩ := Option.isSome_iff_exists.1 (ht 0 (by omega)).1
          have fy0 := (ht 0 (by omega)).2
          obtain ⟨y1, hy1⟩ := Option.isSome_iff_exists.1 (ht 1 (by omega)).1
          have fy1 := (ht 1 (by omega)).2
          obtain ⟨y2, hy2⟩ := Option.isSome_iff_exists.1 (ht 2 (by omega)).1
          have fy2 := (ht 2 (by omega)).2
          obtain ⟨y3, hy3⟩ := Option.isSome_iff_exists.1 (ht 3 (by omega)).1
          have fy3 := (ht 3 (by omega)).2
          obtain ⟨y4, hy4⟩ := Option.isSome_iff_exists.1 (ht 4 (by omega)).1
          have fy4 := (ht 4 (by omega)).2
          obtain ⟨y5, hy5⟩ := Option.isSome_iff_exists.1 (ht 5 (by omega)).1
          have fy5 := (ht 5 (by omega)).2
          rw [Nat.add_zero] at hy0 fy0
          have lB := hB.1
          have xB_0 := hB.cell 0 _ rfl
          have xB_1 := hB.cell 1 _ rfl
          have xB_2 := hB.cell 2 _ rfl
          have xB_3 := hB.cell 3 _ rfl
          have xB_4 := hB.cell 4 _ rfl
          have xB_5 := hB.cell 5 _ rfl
          have hne : B ≠ g := by have := HB.out.1; omega
          have HJ := Lib.hid hjk
          have HOO := Lib.hid hoo
          have HGB := Lib.hid hgb
          have HHB := Lib.hid hB
          have HTH := Lib.hid ht
          clear hjk hoo hgb hgl hB ht
          go_upto_region 12 with fail
          go_region
          have HR12 := Lib.hid (show RdP (w12.setCells g oo (cP ⟨p.k, p.n, p.m, p.c0, p.c1, t5⟩)).drew (some ⟨g, 0, none⟩) (ps.set j ⟨p.k, p.n, p.m, p.c0, p.c1, t5⟩) by
            have h1 := HP12.out.rd.put (j := j) ⟨p.k, p.n, p.m, p.c0, p.c1, t5⟩ (by rw [HOO.out]; exact HTH.out)
            rw [HOO.out] at h1
            exact h1.keep (Below.refl _ _).drew)
          have HBW := Lib.hid (below_grown HB12.out (grown_put g (cP ⟨p.k, p.n, p.m, p.c0, p.c1, t5⟩) oo w12) HGB.out HB12.out.size).drew
          clear y0 hy0 fy0 y1 hy1 fy1 y2 hy2 fy2 y3 hy3 fy3 y4 hy4 fy4 y5 hy5 fy5 lB xB_0 xB_1 xB_2 xB_3 xB_4 xB_5 tw tk lg hne e1
          go_wp2_with fail
          go_meet
          case rel => exact ⟨rfl, ⟨_, Lib.hid ⟨by simp [HPL.out], HR12.out⟩⟩, HBW⟩
      case rest =>
        obtain ⟨rfl, ⟨qs, HQS⟩, hBx⟩ := hcut
        have hA := HA.out.keep hBx.out
        have hB := HB.out.keep hBx.out
        have h10 := H10.out.keep hBx.out
        have HP9 := Lib.hid (HP.out.rd.keep hBx.out)
        have HW := Lib.hid (HW2.out.trans (hBx.out.mono HW2.out.size))
        clear HA HB H10 HP HW2 HO HB12 HP12 hBx HR HC
        have lA := hA.1
        have xA_0 := hA.cell 0 _ rfl
        have xA_1 := hA.cell 1 _ rfl
        have xA_2 := hA.cell 2 _ rfl
        have xA_3 := hA.cell 3 _ rfl
        have xA_4 := hA.cell 4 _ rfl
        have xA_5 := hA.cell 5 _ rfl
        have xA_6 := hA.cell 6 _ rfl
        have xA_7 := hA.cell 7 _ rfl
        have l10 := h10.1
        have x10_0 := h10.cell 0 _ rfl
        have x10_1 := h10.cell 1 _ rfl
        have x10_2 := h10.cell 2 _ rfl
        have x10_3 := h10.cell 3 _ rfl
        have x10_4 := h10.cell 4 _ rfl
        have x10_5 := h10.cell 5 _ rfl
        have x10_6 := h10.cell 6 _ rfl
        have x10_7 := h10.cell 7 _ rfl
        have HB := Lib.hid hB
        clear hA hB h10
        go_wp2_with fail
        clear lA l10 xA_0 x10_0 xA_1 x10_1 xA_2 x10_2 xA_3 x10_3 xA_4 x10_4 xA_5 x10_5 xA_6 x10_6 xA_7 x10_7
        have HF := Lib.hid (Below.refl wc.heap.size wc)
        go_loopw [75] (fun i wr => ∃ k : Nat, k ≤ 2 ∧ i = .int .i64 k ∧ Hid (Below wc.heap.size wc wr)) (fun i _ => 2 - (intOf i).toNat)
        case atStart => exact ⟨0, by omega, rfl, HF⟩
        case round =>
          clear HF
          obtain ⟨i, hi, rfl, hid⟩ := hrel
          by_cases hi2 : i = 2
          · subst hi2
            rw [show (((2 : Nat)) : Int) = 2 from rfl]
            go_wp2_with fail
            have h0 := HW.out.trans (hid.out.mono HW.out.size)
            refine (works_any _ ((H.out).keep h0)).mono ?_
            rintro e w9 ⟨rfl, hb2⟩
            have h2 := Lib.hid (h0.trans (hb2.mono h0.size))
            clear hb2 h0
            go_wp2
            go_ret
            exact ⟨rfl, h2.out⟩
          · have hil : (i : Int) < 2 := by omega
            obtain ⟨x, e0⟩ := ix2 s t i (by omega)
            have hB := HB.out.keep hid.out
            have lB := hB.1
            have xB_0 := hB.cell 0 _ rfl
            have xB_1 := hB.cell 1 _ rfl
            have xB_2 := hB.cell 2 _ rfl
            have xB_3 := hB.cell 3 _ rfl
            have xB_4 := hB.cell 4 _ rfl
            have xB_5 := hB.cell 5 _ rfl
            have HBr := Lib.hid hB
            clear hB
            have HK20 := Lib.hid (show k ≤ 100 by have := HN20.out; omega)
            go_wp2_with fail
            clear e0
            clear lB xB_0 xB_1 xB_2 xB_3 xB_4 xB_5
            have h14 : Box ((wr.alloc (.cells #[.int .i64 x.a, .int .i64 x.u, .int .i64 x.f0, .int .i64 x.f1, .int .i64 x.b0, .int .i64 x.b1, .int .i64 x.l0, .int .i64 x.l1] 25)).alloc (.cells #[.int .i64 p.k, .int .i64 p.n, .int .i64 p.m, .int .i64 p.c0, .int .i64 p.c1, .string t5] 27)) wr.heap.size (cS x) := (Box.new _ _ _).alloc _
            have hR := RdP.one (wr.alloc (.cells #[.int .i64 x.a, .int .i64 x.u, .int .i64 x.f0, .int .i64 x.f1, .int .i64 x.b0, .int .i64 x.b1, .int .i64 x.l0, .int .i64 x.l1] 25)) ⟨p.k, p.n, p.m, p.c0, p.c1, t5⟩ 27
            rw [show (wr.alloc (.cells #[.int .i64 x.a, .int .i64 x.u, .int .i64 x.f0, .int .i64 x.f1, .int .i64 x.b0, .int .i64 x.b1, .int .i64 x.l0, .int .i64 x.l1] 25)).heap.size = wr.heap.size + 1 by simp] at hR
            have hb2 : Below wr.heap.size wr ((wr.alloc (.cells #[.int .i64 x.a, .int .i64 x.u, .int .i64 x.f0, .int .i64 x.f1, .int .i64 x.b0, .int .i64 x.b1, .int .i64 x.l0, .int .i64 x.l1] 25)).alloc (.cells #[.int .i64 p.k, .int .i64 p.n, .int .i64 p.m, .int .i64 p.c0, .int .i64 p.c1, .string t5] 27)) := two_boxes wr _ _
            have hB := HBr.out.keep hb2
            have hid2 := hid.out.trans (hb2.mono hid.out.size)
            clear hb2 HBr hid
            generalize (wr.alloc (.cells #[.int .i64 x.a, .int .i64 x.u, .int .i64 x.f0, .int .i64 x.f1, .int .i64 x.b0, .int .i64 x.b1, .int .i64 x.l0, .int .i64 x.l1] 25)).alloc (.cells #[.int .i64 p.k, .int .i64 p.n, .int .i64 p.m, .int .i64 p.c0, .int .i64 p.c1, .string t5] 27) = w14 at h14 hR hB hid2 ⊢
            generalize wr.heap.size + 1 = R14 at hR ⊢
            generalize wr.heap.size = B14 at h14 ⊢
            have H14 := Lib.hid h14
            have HP3r := Lib.hid hR
            have HBr := Lib.hid hB
            have HG := Lib.hid hid2
            have HWr := Lib.hid (HW.out.trans (hid2.mono HW.out.size))
            have HP9r := Lib.hid (HP9.out.keep hid2)
            have HQSr := Lib.hid (And.intro HQS.out.1 (HQS.out.2.keep hid2))
            clear h14 hR hB hid2
            have HF3 := Lib.hid (Below.refl w14.heap.size w14)
            go_loopw [83] (fun i wr => ∃ m : Nat, m ≤ 3 ∧ i = .int .i64 m ∧ Hid (Below w14.heap.size w14 wr)) (fun i _ => 3 - (intOf i).toNat)
            case atStart => exact ⟨0, by omega, rfl, HF3⟩
            case round =>
              clear HF3
              obtain ⟨m, hm, rfl, hid3⟩ := hrel
              by_cases hm3 : m = 3
              · subst hm3
                rw [show (((3 : Nat)) : Int) = 3 from rfl]
                obtain ⟨y, hy⟩ : ∃ y, runV x [⟨p.k, p.n, p.m, p.c0, p.c1, t5⟩] = y := ⟨_, rfl⟩
                obtain ⟨r, hr⟩ : ∃ r, runE x [⟨p.k, p.n, p.m, p.c0, p.c1, t5⟩] = r := ⟨_, rfl⟩
                have HY := Lib.hid hy
                have HR := Lib.hid hr
                have HE := Lib.hid hid3.out
                clear hy hr hid3
                have h14 := H14.out.keep HE.out
                have hB := HBr.out.keep HE.out
                have l14 := h14.1
                have x14_0 := h14.cell 0 _ rfl
                have x14_1 := h14.cell 1 _ rfl
                have x14_2 := h14.cell 2 _ rfl
                have x14_3 := h14.cell 3 _ rfl
                have x14_4 := h14.cell 4 _ rfl
                have x14_5 := h14.cell 5 _ rfl
                have x14_6 := h14.cell 6 _ rfl
                have x14_7 := h14.cell 7 _ rfl
                have lB := hB.1
                have xB_0 := hB.cell 0 _ rfl
                have xB_1 := hB.cell 1 _ rfl
                have xB_2 := hB.cell 2 _ rfl
                have xB_3 := hB.cell 3 _ rfl
                have xB_4 := hB.cell 4 _ rfl
                have xB_5 := hB.cell 5 _ rfl
                have H14r := Lib.hid h14
                have HBq := Lib.hid hB
                clear h14 hB
                go_wp2_with fail
                refine (apply_is x ⟨p.k, p.n, p.m, p.c0, p.c1, t5⟩ y r HY.out HR.out _ ((H.out).keep (HWr.out.trans (HE.out.mono HWr.out.size)))).mono ?_
                rintro e w16 ⟨rfl, hb⟩
                have HE2 := Lib.hid (HE.out.trans (hb.mono HE.out.size))
                have h14 := H14r.out.keep hb
                have hB := HBq.out.keep hb
                clear hb HE H14r HBq
                clear l14 x14_0 x14_1 x14_2 x14_3 x14_4 x14_5 x14_6 x14_7
                clear lB xB_0 xB_1 xB_2 xB_3 xB_4 xB_5
                have l14 := h14.1
                have x14_0 := h14.cell 0 _ rfl
                have x14_1 := h14.cell 1 _ rfl
                have x14_2 := h14.cell 2 _ rfl
                have x14_3 := h14.cell 3 _ rfl
                have x14_4 := h14.cell 4 _ rfl
                have x14_5 := h14.cell 5 _ rfl
                have x14_6 := h14.cell 6 _ rfl
                have x14_7 := h14.cell 7 _ rfl
                have lB := hB.1
                have xB_0 := hB.cell 0 _ rfl
                have xB_1 := hB.cell 1 _ rfl
                have xB_2 := hB.cell 2 _ rfl
                have xB_3 := hB.cell 3 _ rfl
                have xB_4 := hB.cell 4 _ rfl
                have xB_5 := hB.cell 5 _ rfl
                clear h14 hB
                go_wp2_with fail
                clear l14 x14_0 x14_1 x14_2 x14_3 x14_4 x14_5 x14_6 x14_7
                clear lB xB_0 xB_1 xB_2 xB_3 xB_4 xB_5
                have h17 : Box (w16.alloc (.cells #[.int .i64 y.a, .int .i64 y.u, .int .i64 y.f0, .int .i64 y.f1, .int .i64 y.b0, .int .i64 y.b1, .int .i64 y.l0, .int .i64 y.l1] 25)) w16.heap.size (cS y) := Box.new _ _ _
                have HE3 := Lib.hid (HE2.out.alloc HE2.out.size (.cells #[.int .i64 y.a, .int .i64 y.u, .int .i64 y.f0, .int .i64 y.f1, .int .i64 y.b0, .int .i64 y.b1, .int .i64 y.l0, .int .i64 y.l1] 25))
                clear HE2
                generalize w16.alloc (.cells #[.int .i64 y.a, .int .i64 y.u, .int .i64 y.f0, .int .i64 y.f1, .int .i64 y.b0, .int .i64 y.b1, .int .i64 y.l0, .int .i64 y.l1] 25) = w17 at h17 HE3 ⊢
                generalize w16.heap.size = B17 at h17 ⊢
                refine (rapply_is x ⟨p.k, p.n, p.m, p.c0, p.c1, t5⟩ y r HY.out HR.out _).mono ?_
                rintro e w18 ⟨rfl, hb⟩
                have HE4 := Lib.hid (HE3.out.trans (hb.mono HE3.out.size))
                have h17 := h17.keep hb
                clear hb HE3
                have l17 := h17.1
                have x17_0 := h17.cell 0 _ rfl
                have x17_1 := h17.cell 1 _ rfl
                have x17_2 := h17.cell 2 _ rfl
                have x17_3 := h17.cell 3 _ rfl
                have x17_4 := h17.cell 4 _ rfl
                have x17_5 := h17.cell 5 _ rfl
                have x17_6 := h17.cell 6 _ rfl
                have x17_7 := h17.cell 7 _ rfl
                have e5 : ∀ W, (binOp .neq 25 (.agg #[.int .i64 y.a, .int .i64 y.u, .int .i64 y.f0, .int .i64 y.f1, .int .i64 y.b0, .int .i64 y.b1, .int .i64 y.l0, .int .i64 y.l1]) (.agg #[.int .i64 y.a, .int .i64 y.u, .int .i64 y.f0, .int .i64 y.f1, .int .i64 y.b0, .int .i64 y.b1, .int .i64 y.l0, .int .i64 y.l1])).run Tryd.prog W = .ok (.bool false) W := fun W => by rw [neqS, eqS_self]; rfl
                clear h17
                have HE5 := Lib.hid (HE4.out.alloc HE4.out.size (.cells #[.int .i64 y.a, .int .i64 y.u, .int .i64 y.f0, .int .i64 y.f1, .int .i64 y.b0, .int .i64 y.b1, .int .i64 y.l0, .int .i64 y.l1] 25))
                have HX := Lib.hid (HG.out.trans (HE5.out.mono HG.out.size))
                clear HE4 HE5
                go_wp2
                all_goals
                  go_roundw
                  case rel => exact ⟨i + 1, by omega, rfl, HX⟩
                  case measure => simp [intOf]; omega
              · skip
                obtain ⟨A3, n3, c3, ys, hys, e3⟩ := ix3 A9 A12 (some ⟨R14, 0, none⟩) k k 1 c9 c12 1 w14 ps qs [⟨p.k, p.n, p.m, p.c0, p.c1, t5⟩] ⟨HPL.out, HK20.out, HP9r.out⟩ ⟨HQSr.out.1, HK20.out, HQSr.out.2⟩ ⟨rfl, by omega, HP3r.out⟩ m (by omega)
                have hm3i : (m : Int) < 3 := by omega
                obtain ⟨y, hy⟩ : ∃ y, runV x ys = y := ⟨_, rfl⟩
                obtain ⟨r, hr⟩ : ∃ r, runE x ys = r := ⟨_, rfl⟩
                have HY := Lib.hid hy
                have HR := Lib.hid hr
                have HYS := Lib.hid (And.intro hys.1 (And.intro hys.2.1 (hys.2.2.keep hid3.out)))
                have HE := Lib.hid hid3.out
                clear hy hr hys hid3
                have h14 := H14.out.keep HE.out
                have l14 := h14.1
                have x14_0 := h14.cell 0 _ rfl
                have x14_1 := h14.cell 1 _ rfl
                have x14_2 := h14.cell 2 _ rfl
                have x14_3 := h14.cell 3 _ rfl
                have x14_4 := h14.cell 4 _ rfl
                have x14_5 := h14.cell 5 _ rfl
                have x14_6 := h14.cell 6 _ rfl
                have x14_7 := h14.cell 7 _ rfl
                have H14r := Lib.hid h14
                clear h14
                go_wp2_with fail
                refine (run_is x A3 ys n3 c3 HYS.out.1 y r HY.out HR.out _ ((H.out).keep (HWr.out.trans (HE.out.mono HWr.out.size))) HYS.out.2.2 (by have := HYS.out.2.1; omega)).mono ?_
                rintro e w16 ⟨rfl, hb⟩
                have HE2 := Lib.hid (HE.out.trans (hb.mono HE.out.size))
                have h14 := H14r.out.keep hb
                have HYS2 := Lib.hid (HYS.out.2.2.keep hb)
                clear hb HE H14r
                clear l14 x14_0 x14_1 x14_2 x14_3 x14_4 x14_5 x14_6 x14_7
                have l14 := h14.1
                have x14_0 := h14.cell 0 _ rfl
                have x14_1 := h14.cell 1 _ rfl
                have x14_2 := h14.cell 2 _ rfl
                have x14_3 := h14.cell 3 _ rfl
                have x14_4 := h14.cell 4 _ rfl
                have x14_5 := h14.cell 5 _ rfl
                have x14_6 := h14.cell 6 _ rfl
                have x14_7 := h14.cell 7 _ rfl
                have H14r := Lib.hid h14
                clear h14
                go_wp2_with fail
                clear l14 x14_0 x14_1 x14_2 x14_3 x14_4 x14_5 x14_6 x14_7
                have h17 : Box (w16.alloc (.cells #[.int .i64 y.a, .int .i64 y.u, .int .i64 y.f0, .int .i64 y.f1, .int .i64 y.b0, .int .i64 y.b1, .int .i64 y.l0, .int .i64 y.l1] 25)) w16.heap.size (cS y) := Box.new _ _ _
                have HE3 := Lib.hid (HE2.out.alloc HE2.out.size (.cells #[.int .i64 y.a, .int .i64 y.u, .int .i64 y.f0, .int .i64 y.f1, .int .i64 y.b0, .int .i64 y.b1, .int .i64 y.l0, .int .i64 y.l1] 25))
                have HYS3 := Lib.hid (HYS2.out.keep (below_box w16 (.cells #[.int .i64 y.a, .int .i64 y.u, .int .i64 y.f0, .int .i64 y.f1, .int .i64 y.b0, .int .i64 y.b1, .int .i64 y.l0, .int .i64 y.l1] 25)))
                clear HE2 HYS2 H14r
                generalize w16.alloc (.cells #[.int .i64 y.a, .int .i64 y.u, .int .i64 y.f0, .int .i64 y.f1, .int .i64 y.b0, .int .i64 y.b1, .int .i64 y.l0, .int .i64 y.l1] 25) = w17 at h17 HE3 HYS3 ⊢
                generalize w16.heap.size = B17 at h17 ⊢
                refine (rrun_is x A3 ys n3 c3 HYS.out.1 y r HY.out HR.out _ HYS3.out (by have := HYS.out.2.1; omega)).mono ?_
                rintro e w18 ⟨rfl, hb⟩
                have HE4 := Lib.hid (HE3.out.trans (hb.mono HE3.out.size))
                have h17 := h17.keep hb
                clear hb HE3 HYS3
                have l17 := h17.1
                have x17_0 := h17.cell 0 _ rfl
                have x17_1 := h17.cell 1 _ rfl
                have x17_2 := h17.cell 2 _ rfl
                have x17_3 := h17.cell 3 _ rfl
                have x17_4 := h17.cell 4 _ rfl
                have x17_5 := h17.cell 5 _ rfl
                have x17_6 := h17.cell 6 _ rfl
                have x17_7 := h17.cell 7 _ rfl
                have e5 : ∀ W, (binOp .neq 25 (.agg #[.int .i64 y.a, .int .i64 y.u, .int .i64 y.f0, .int .i64 y.f1, .int .i64 y.b0, .int .i64 y.b1, .int .i64 y.l0, .int .i64 y.l1]) (.agg #[.int .i64 y.a, .int .i64 y.u, .int .i64 y.f0, .int .i64 y.f1, .int .i64 y.b0, .int .i64 y.b1, .int .i64 y.l0, .int .i64 y.l1])).run Tryd.prog W = .ok (.bool false) W := fun W => by rw [neqS, eqS_self]; rfl
                clear h17
                have HE5 := Lib.hid (HE4.out.alloc HE4.out.size (.cells #[.int .i64 y.a, .int .i64 y.u, .int .i64 y.f0, .int .i64 y.f1, .int .i64 y.b0, .int .i64 y.b1, .int .i64 y.l0, .int .i64 y.l1] 25))
                clear HE4
                go_wp2
                go_roundw
                case rel => exact ⟨m + 1, by omega, rfl, HE5⟩
                case measure => simp [intOf]; omega
end Go.Proofs.YtokjjeekkfefmaaDoor.Sty
