/-
  The walk of the law SgrParams.
-/
import Derived.Deep.DeepCutAuto
import Derived.Test.YteepfecplabinaaDoorP10
import Derived.Test.YteepfecplabinaaDoorP32
import Derived.Test.YteepfecplabinaaDoorP35
import Derived.Test.YteepfecplabinaaDoorP37
namespace Go.Proofs.YteepfecplabinaaDoor.Sgr
open Go.RowKit Utf

def qdp (ds : List Sty.D8) (k : Nat) : List Q4 := (ds.take k).map qD
theorem qdp_snoc (ds : List Sty.D8) (k : Nat) (x : Sty.D8) (h : ds[k]? = some x) : pPs (qdp ds k) ++ [pP (qD x)] = pPs (qdp ds (k + 1)) := by
  unfold qdp pPs
  rw [List.take_add_one, h]; simp
theorem qdp_len (ds : List Sty.D8) (k : Nat) (h : k ≤ ds.length) : (qdp ds k).length = k := by unfold qdp; rw [List.length_map, List.length_take]; omega
/-- a row of parameters that a call hands back -/
def ParsAt (W : World) (ps : List Sty.P6) (e : Ending) (w' : World) : Prop := ∃ v, e = .returned (.tuple #[v, .int .i64 (parsV ps).2]) ∧ Par.RL w' v (parsV ps).1 ∧ Below W.heap.size W w'
theorem pars_at {W w' : World} {ps : List Sty.P6} {e : Ending} (h : ParsPost W ps e w') : ParsAt W ps e w' := by
  obtain ⟨v, rfl, ho, hb⟩ := h
  exact ⟨v, rfl, ho.rl, hb⟩
theorem prmV_six (q : Q4) : (prmV q).length ≤ 6 := by
  unfold prmV
  repeat' split
  all_goals simp
theorem parsV_len (ps : List Sty.P6) : (parsV ps).1.length ≤ 16 ∧ ∀ p ∈ (parsV ps).1, p.length ≤ 6 := by
  unfold parsV
  split
  · exact ⟨by decide, by simp⟩
  · split
    · exact ⟨by decide, by simp⟩
    · rename_i h
      refine ⟨by show (prmP ps).length ≤ 16; unfold prmP; rw [List.length_map]; omega, fun p hp => ?_⟩
      have hp2 : p ∈ prmP ps := hp
      unfold prmP at hp2
      obtain ⟨q, _, rfl⟩ := List.mem_map.1 hp2
      exact prmV_six _
theorem psame_at (u v : Value) (l : List (List Int)) (W : World) (h1 : Par.RL W u l) (h2 : Par.RL W v l) (hl : l.length ≤ 16 ∧ ∀ p ∈ l, p.length ≤ 6) :
    Calls Tryd.prog 20 #[u, v] W fun e w' => e = .returned (.bool true) ∧ Below W.heap.size W w' := by
  have := Par.rsame_big u v l l W h1 h2 (by have := hl.1; omega) (fun p hp => by have := hl.2 p hp; omega) (fun p hp => by have := hl.2 p hp; omega)
  rwa [decide_eq_true rfl] at this
set_option maxRecDepth 100000 in
set_option maxHeartbeats 8000000 in
theorem sparams_any (ds : List Sty.D8) (A : Option Addr) (n c : Nat) (p : Sty.P6) (tt : UInt8) (w : World) (het : EnvT w) (hn : ds.length = n) (hm : n ≤ 9223372036854775807) (hr : Sty.RdD w A ds) (hts : p.t.size ≤ 9223372036854775807) :
    Calls Tryd.prog 5 #[.slice A n c, .agg #[.int .i64 p.k, .int .i64 p.n, .int .i64 p.m, .int .i64 p.c0, .int .i64 p.c1, .string p.t], .int .u8 (tt.toNat : Int)] w fun e w' => e = .returned (.bool true) ∧ Below w.heap.size w w' := by
  have HT := Lib.hid het
  have HR := Lib.hid hr
  have HN := Lib.hid hn
  have HB0 := Lib.hid (show Sty.Box (w.alloc (.cells #[.int .i64 p.k, .int .i64 p.n, .int .i64 p.m, .int .i64 p.c0, .int .i64 p.c1, .string p.t] 48)) w.heap.size (Sty.cP p) from Sty.Box.new w _ _)
  have HW0 := Lib.hid (below_box w (.cells #[.int .i64 p.k, .int .i64 p.n, .int .i64 p.m, .int .i64 p.c0, .int .i64 p.c1, .string p.t] 48))
  clear het hr hn
  go_enter Tryd.func5, Tryd.ntmps5
  go_upto_region 1 with fail
  generalize w.alloc (.cells #[.int .i64 p.k, .int .i64 p.n, .int .i64 p.m, .int .i64 p.c0, .int .i64 p.c1, .string p.t] 48) = w1 at HB0 HW0 ⊢
  generalize hBB : w.heap.size = B at HB0 ⊢
  have HBB := Lib.hid hBB
  clear hBB
  have x5 := HB0.out.cell 5 _ rfl
  have v5 := HB0.out.free 5 (by show 5 < 6; decide)
  go_upto_region 2 with fail
  generalize p.t.extract 0 (min (↑p.t.size : Int) 10).toNat = t5
  have HB := Lib.hid (show Sty.Box (w1.setCell ⟨B, 5, none⟩ (.string t5)) B (Sty.cP ⟨p.k, p.n, p.m, p.c0, p.c1, t5⟩) from HB0.out.set 5 (.string t5))
  have HW := Lib.hid (HW0.out.setCell (p := ⟨B, 5, none⟩) (by show w.heap.size ≤ B; rw [HBB.out]; exact Nat.le_refl _) (.string t5))
  clear x5 v5 HB0 HW0
  generalize w1.setCell ⟨B, 5, none⟩ (.string t5) = w2 at HB HW ⊢
  go_wp2_with fail
  go_loopw [7, 8] (fun v i wr => ∃ k : Nat, k ≤ n ∧ k ≤ 20 ∧ i = .int .i64 k ∧ Hid (Sty.OwnP wr w2.heap.size v (pPs (qdp ds k)) ∧ Below w2.heap.size w2 wr)) (fun _ i _ => 20 - (intOf i).toNat)
  case atStart => exact ⟨0, by omega, by omega, rfl, World.ownsRow_nil _ _ _ _, Below.refl _ _⟩
  case round =>
    obtain ⟨k, hk, hk20, rfl, hid⟩ := hrel
    by_cases hk2 : k < n ∧ k < 20
    · have q1 : (k : Int) < (n : Int) := by omega
      have q2 : (k : Int) < 20 := by omega
      obtain ⟨x, hx⟩ : ∃ x, ds[k]? = some x := ⟨_, List.getElem?_eq_getElem (by have := HN.out; omega)⟩
      obtain ⟨b, o', rfl, hbl, hrg⟩ := HR.out k x hx
      have e1 := fun W => Sty.ixD_run b o' n c k hk2.1 W
      generalize o' + k * 8 = oo at e1 hrg
      have hB := Par.up HW.out hid.out.2
      have x0 : wr.cell? ⟨b, oo, none⟩ = _ := (hB.cell (p := ⟨b, oo, none⟩) hbl).trans (hrg 0 _ rfl)
      have x1 : wr.cell? ⟨b, oo + 1, none⟩ = _ := (hB.cell (p := ⟨b, oo + 1, none⟩) hbl).trans (hrg 1 _ rfl)
      have x2 : wr.cell? ⟨b, oo + 2, none⟩ = _ := (hB.cell (p := ⟨b, oo + 2, none⟩) hbl).trans (hrg 2 _ rfl)
      have x3 : wr.cell? ⟨b, oo + 3, none⟩ = _ := (hB.cell (p := ⟨b, oo + 3, none⟩) hbl).trans (hrg 3 _ rfl)
      have x4 : wr.cell? ⟨b, oo + 4, none⟩ = _ := (hB.cell (p := ⟨b, oo + 4, none⟩) hbl).trans (hrg 4 _ rfl)
      have x5 : wr.cell? ⟨b, oo + 5, none⟩ = _ := (hB.cell (p := ⟨b, oo + 5, none⟩) hbl).trans (hrg 5 _ rfl)
      have x6 : wr.cell? ⟨b, oo + 6, none⟩ = _ := (hB.cell (p := ⟨b, oo + 6, none⟩) hbl).trans (hrg 6 _ rfl)
      have x7 : wr.cell? ⟨b, oo + 7, none⟩ = _ := (hB.cell (p := ⟨b, oo + 7, none⟩) hbl).trans (hrg 7 _ rfl)
      have HP := Lib.hid (pen9_any x wr)
      unfold qV at HP
      have HS := Lib.hid (qdp_snoc ds k x hx)
      have HL := Lib.hid (qdp_len ds k (by have := HN.out; omega))
      clear hB hrg hbl hx
      generalize hq : qD x = q at HP HS
      clear hq
      go_wp2_with fail
      refine HP.out.mono ?_
      rintro e wB ⟨rfl, hb⟩
      have HO := Lib.hid (hid.out.1.keep hb)
      have HB2 := Lib.hid (Par.up hid.out.2 hb)
      clear hb x0 x1 x2 x3 x4 x5 x6 x7 e1 hid
      go_wp2_with (at_builtin; refine Sty.wpList_appP _ rfl _ _ rfl w2.heap.size _ (pPs (qdp ds k)) rfl (HO.out.keep (below_box wB _)) (some ⟨wB.heap.size, 0, none⟩) 1 1 [pP q] rfl rfl (Sty.RdP.one wB (pP q) 48) (fun h => by cases h) ?hl ?hb0 ?_; rotate_left 2; intro v3 w11 hown3 hb3; rw [HS.out] at hown3; have HO := Lib.hid hown3; have HB2 := Lib.hid ((Par.up HB2.out (below_box wB _)).trans hb3); clear hown3 hb3)
      case hl => simp only [pPs, List.length_map]; have := HL.out; omega
      case hb0 => have := HB2.out.size; simp; omega
      go_roundw
      case rel => exact ⟨k + 1, by omega, by omega, by go_num, HO.out, HB2.out⟩
      case measure => simp [intOf]; omega
    · have HKN := Lib.hid hk2
      obtain ⟨ps, hps⟩ : ∃ ps, pPs (qdp ds k) = ps := ⟨_, rfl⟩
      have hpl : ps.length = k := by rw [← hps]; unfold pPs; rw [List.length_map]; exact qdp_len ds k (by have := HN.out; omega)
      have hP := hid.out.1
      have hBe := hid.out.2
      rw [hps] at hP
      clear hps
      obtain ⟨A9, c9, hv9, hc9, hc9m⟩ := hP.form
      rw [hpl] at hv9 hc9
      subst hv9
      have HPL := Lib.hid hpl
      have HP := Lib.hid hP
      have HBe := Lib.hid hBe
      have HB := Lib.hid (HB.out.keep hBe)
      have HW2 := Lib.hid (Par.up HW.out hBe)
      have HO := Lib.hid (Sty.OwnP.new wr wr.heap.size (Nat.le_refl _) [] #[] rfl (by unfold maxLen; decide))
      have g1 : ¬ ((k : Int) < (n : Int) ∧ (k : Int) < 20) := by omega
      have hkc : (k : Int) < (n : Int) → ¬ (k : Int) < 20 := fun h1 h2 => hk2 (by omega)
      clear hc9 hc9m hpl hP hBe hid hk2 g1 HW
      rcases Int.lt_or_le (k : Int) (n : Int) with hlt | hlt
      · have h20 := hkc hlt
        clear hkc
        go_upto_region 7 with fail
        go_upto_if 47 with (at_builtin; refine Sty.wpList_appP _ rfl _ _ rfl wr.heap.size _ [] rfl HO.out A9 k c9 ps rfl HPL.out (HP.out.rd.keep (below_box wr _)) (fun h => by subst h; exact HP.out.nil) ?hl ?hb0 ?_; rotate_left 2; intro v12 w12 hown3 hb3; have HB12 := Lib.hid ((below_box wr _).trans hb3); have hown4 : Sty.OwnP w12 wr.heap.size v12 ps := hown3; obtain ⟨A12, c12, hv12, hc12, hc12m⟩ := hown4.form; rw [HPL.out] at hv12; subst hv12; have HP12 := Lib.hid hown4; clear hown3 hown4 hb3 hc12 hc12m)
        case hl => omega
        go_cut [9] from 16 (fun v wx => v = .slice A12 k c12 ∧ (∃ qs, Hid (qs.length = k ∧ Sty.RdP wx A12 qs)) ∧ Hid (Below wr.heap.size wr wx))
        case first =>
          by_cases hk0 : k = 0
          · exfalso; omega
          · have hk1 : (0 : Int) < (k : Int) := by omega
            obtain ⟨g, rfl, hgb, hgl⟩ := HP12.out.at0 (by omega)
            obtain ⟨j, hj, hjk⟩ : ∃ j : Nat, (tt.toNat : Int).tmod (k : Int) = (j : Int) ∧ j < k := ⟨tt.toNat % k, by rw [Int.tmod_eq_emod_of_nonneg (by omega)]; rfl, Nat.mod_lt _ (by omega)⟩
            have e1 := fun W => Sty.ix_run g 0 k c12 j hjk W
            have ht := HP12.out.there (j := j) (by rw [HPL.out]; exact hjk)
            obtain ⟨oo, hoo⟩ : ∃ oo, j * 6 = oo := ⟨_, rfl⟩
            rw [show 0 + j * 6 = oo by omega] at e1
            rw [hoo] at ht
            have hB := HB.out.keep HB12.out
            have tw : IntKind.i64.wrap (tt.toNat : Int) = (tt.toNat : Int) := IntWalk.i64_in _ (by have := tt.toNat_lt; omega)
            have tk : ¬ (k : Int) = 0 := by omega
            have lg := hgl
            obtain ⟨y0, hy0⟩ := Option.isSome_iff_exists.1 (ht 0 (by omega)).1
            have fy0 := (ht 0 (by omega)).2
            obtain ⟨y1, hy1⟩ := Option.isSome_iff_exists.1 (ht 1 (by omega)).1
            have fy1 := (ht 1 (by omega)).2
            obtain ⟨y2, hy2⟩ := Option.isSome_iff_exists.1 (ht 2 (by omega)).1
            have fy2 := (ht 2 (by omega)).2
            obtain ⟨y3, hy3⟩ := Option.isSome_iff_exists.1 (ht 3 (by omega)).1
            have fy3 := (ht 3 (by omega)).2
            obtain ⟨y4, hy4⟩ := Option.isSome_iff_exists.1 (ht 4 (by omega)).1
            have fy4 := (ht 4 (by omega)).2
            obtain ⟨y5, hy5⟩ := Option.isSome_iff_exists.1 (ht 5 (by omega)).1
            have fy5 := (ht 5 (by omega)).2
            rw [Nat.add_zero] at hy0 fy0
            have lB := hB.1
            have xB_0 := hB.cell 0 _ rfl
            have xB_1 := hB.cell 1 _ rfl
            have xB_2 := hB.cell 2 _ rfl
            have xB_3 := hB.cell 3 _ rfl
            have xB_4 := hB.cell 4 _ rfl
            have xB_5 := hB.cell 5 _ rfl
            have hne : B ≠ g := by have := HB.out.1; omega
            have HJ := Lib.hid hjk
            have HOO := Lib.hid hoo
            have HGB := Lib.hid hgb
            have HHB := Lib.hid hB
            have HTH := Lib.hid ht
            clear hjk hoo hgb hgl hB ht
            go_upto_region 9 with fail
            go_region
            have HR12 := Lib.hid (show Sty.RdP (w12.setCells g oo (Sty.cP ⟨p.k, p.n, p.m, p.c0, p.c1, t5⟩)).drew (some ⟨g, 0, none⟩) (ps.set j ⟨p.k, p.n, p.m, p.c0, p.c1, t5⟩) by
              have h1 := HP12.out.rd.put (j := j) ⟨p.k, p.n, p.m, p.c0, p.c1, t5⟩ (by rw [HOO.out]; exact HTH.out)
              rw [HOO.out] at h1
              exact h1.keep (Below.refl _ _).drew)
            have HBW := Lib.hid (Sty.below_grown HB12.out (Sty.grown_put g (Sty.cP ⟨p.k, p.n, p.m, p.c0, p.c1, t5⟩) oo w12) HGB.out HB12.out.size).drew
            clear y0 hy0 fy0 y1 hy1 fy1 y2 hy2 fy2 y3 hy3 fy3 y4 hy4 fy4 y5 hy5 fy5 lB xB_0 xB_1 xB_2 xB_3 xB_4 xB_5 tw tk lg hne e1
            go_wp2_with fail
            go_meet
            case rel => exact ⟨rfl, ⟨_, Lib.hid ⟨by simp [HPL.out], HR12.out⟩⟩, HBW⟩
        case rest =>
          obtain ⟨rfl, ⟨qs, HQS⟩, hBx⟩ := hcut
          have hB := HB.out.keep hBx.out
          have HP9 := Lib.hid (HP.out.rd.keep hBx.out)
          have HW := Lib.hid (HW2.out.trans (hBx.out.mono HW2.out.size))
          clear HB HP HW2 HO HB12 HP12 hBx HR HBe
          have xB_0 := hB.cell 0 _ rfl
          have xB_1 := hB.cell 1 _ rfl
          have xB_2 := hB.cell 2 _ rfl
          have xB_3 := hB.cell 3 _ rfl
          have xB_4 := hB.cell 4 _ rfl
          have xB_5 := hB.cell 5 _ rfl
          go_upto_region 11 with fail
          have HP9 := Lib.hid (HP9.out.keep (below_box wc (.cells #[.int .i64 p.k, .int .i64 p.n, .int .i64 p.m, .int .i64 p.c0, .int .i64 p.c1, .string t5] 48)))
          have HQ9 := Lib.hid (HQS.out.2.keep (below_box wc (.cells #[.int .i64 p.k, .int .i64 p.n, .int .i64 p.m, .int .i64 p.c0, .int .i64 p.c1, .string t5] 48)))
          have HA9 := Lib.hid (Sty.RdP.one wc ⟨p.k, p.n, p.m, p.c0, p.c1, t5⟩ 48)
          have HW := Lib.hid (Par.up HW.out (below_box wc (.cells #[.int .i64 p.k, .int .i64 p.n, .int .i64 p.m, .int .i64 p.c0, .int .i64 p.c1, .string t5] 48)))
          have HET := Lib.hid (HT.out.keep HW.out)
          clear xB_0 xB_1 xB_2 xB_3 xB_4 xB_5 hB
          generalize hsx : wc.heap.size = X at HA9 ⊢
          have hA9 : Sty.RdP (wc.alloc (.cells #[.int .i64 p.k, .int .i64 p.n, .int .i64 p.m, .int .i64 p.c0, .int .i64 p.c1, .string t5] 48)) (some ⟨X, 0, none⟩) [⟨p.k, p.n, p.m, p.c0, p.c1, t5⟩] := HA9.out
          have HA9 := Lib.hid hA9
          clear hA9 hsx
          generalize wc.alloc (.cells #[.int .i64 p.k, .int .i64 p.n, .int .i64 p.m, .int .i64 p.c0, .int .i64 p.c1, .string t5] 48) = w4 at HP9 HQ9 HA9 HW HET ⊢
          go_loopw [61] (fun i wr2 => ∃ j : Nat, j ≤ 3 ∧ i = .int .i64 j ∧ Hid (Below w4.heap.size w4 wr2)) (fun i _ => 3 - (intOf i).toNat)
          case atStart => exact ⟨0, by omega, rfl, Below.refl _ _⟩
          case round =>
            obtain ⟨j, hj, rfl, hid⟩ := hrel
            by_cases hj2 : j < 3
            · have q1 : (j : Int) < 3 := by omega
              obtain ⟨C, m, d, us, hus, e1⟩ := Sty.ix3 A9 A12 (some ⟨X, 0, none⟩) k k 1 c9 c12 1 wr ps qs [⟨p.k, p.n, p.m, p.c0, p.c1, t5⟩] ⟨HPL.out, by omega, HP9.out.keep hid.out⟩ ⟨HQS.out.1, by omega, HQ9.out.keep hid.out⟩ ⟨rfl, by decide, HA9.out.keep hid.out⟩ j hj2
              have HUS := Lib.hid hus
              have HE := Lib.hid (HET.out.e.keep hid.out)
              clear hus hj2
              go_upto_region 14 with (go_at_call 18; refine (params_any C m d us _ HE.out HUS.out.1.symm HUS.out.2.2 (by have := HUS.out.2.1; omega)).mono ?_; rintro e W1 h0; obtain ⟨v1, rfl, h1, hb⟩ := pars_at h0; have R1 := Lib.hid h1; have HU2 := Lib.hid (HUS.out.2.2.keep hb); have hid := Lib.hid (Par.up hid.out hb); clear h0 h1 hb)
              go_upto_region 15 with (go_at_call 19; refine (rparams_any C m d us _ HUS.out.1.symm HU2.out (by have := HUS.out.2.1; omega)).mono ?_; rintro e W2 h0; obtain ⟨v2, rfl, h1, hb⟩ := pars_at h0; have R2 := Lib.hid h1; have R1 := Lib.hid (R1.out.keep hb); have hid := Lib.hid (Par.up hid.out hb); clear h0 h1 hb)
              have HS := Lib.hid (psame_at v1 v2 _ W2 R1.out R2.out (parsV_len us))
              generalize (parsV us).2 = er
              go_wp2_with (go_at_call 20; refine HS.out.mono ?_; rintro e W3 ⟨rfl, hb⟩; have hid := Lib.hid (Par.up hid.out hb); clear hb HS)
              go_roundw
              case rel => exact ⟨j + 1, by omega, by go_num, hid⟩
              case measure => simp [intOf]; omega
            · obtain rfl : j = 3 := by omega
              have HWK := Lib.hid (works_any wr (HET.out.keep hid.out))
              go_wp2_with (go_at_call 16; refine HWK.out.mono ?_; rintro e W4 ⟨rfl, hb⟩; have HW := Lib.hid (Par.up (Par.up HW.out hid.out) hb); clear hb)
              go_ret
              exact ⟨rfl, HW.out⟩
      · clear hkc
        go_upto_region 7 with fail
        go_upto_if 47 with (at_builtin; refine Sty.wpList_appP _ rfl _ _ rfl wr.heap.size _ [] rfl HO.out A9 k c9 ps rfl HPL.out (HP.out.rd.keep (below_box wr _)) (fun h => by subst h; exact HP.out.nil) ?hl2 ?hb2 ?_; rotate_left 2; intro v12 w12 hown3 hb3; have HB12 := Lib.hid ((below_box wr _).trans hb3); have hown4 : Sty.OwnP w12 wr.heap.size v12 ps := hown3; obtain ⟨A12, c12, hv12, hc12, hc12m⟩ := hown4.form; rw [HPL.out] at hv12; subst hv12; have HP12 := Lib.hid hown4; clear hown3 hown4 hb3 hc12 hc12m)
        case hl2 => show 0 + k ≤ 100000; omega
        case hb2 => rw [World.size_alloc]; omega
        go_cut [9] from 16 (fun v wx => v = .slice A12 k c12 ∧ (∃ qs, Hid (qs.length = k ∧ Sty.RdP wx A12 qs)) ∧ Hid (Below wr.heap.size wr wx))
        case first =>
          by_cases hk0 : k = 0
          · subst hk0
            go_wp2_with fail
            go_meet
            case rel => exact ⟨rfl, ⟨ps, Lib.hid ⟨HPL.out, HP12.out.rd⟩⟩, HB12⟩
          · have hk1 : (0 : Int) < (k : Int) := by omega
            obtain ⟨g, rfl, hgb, hgl⟩ := HP12.out.at0 (by omega)
            obtain ⟨j, hj, hjk⟩ : ∃ j : Nat, (tt.toNat : Int).tmod (k : Int) = (j : Int) ∧ j < k := ⟨tt.toNat % k, by rw [Int.tmod_eq_emod_of_nonneg (by omega)]; rfl, Nat.mod_lt _ (by omega)⟩
            have e1 := fun W => Sty.ix_run g 0 k c12 j hjk W
            have ht := HP12.out.there (j := j) (by rw [HPL.out]; exact hjk)
            obtain ⟨oo, hoo⟩ : ∃ oo, j * 6 = oo := ⟨_, rfl⟩
            rw [show 0 + j * 6 = oo by omega] at e1
            rw [hoo] at ht
            have hB := HB.out.keep HB12.out
            have tw : IntKind.i64.wrap (tt.toNat : Int) = (tt.toNat : Int) := IntWalk.i64_in _ (by have := tt.toNat_lt; omega)
            have tk : ¬ (k : Int) = 0 := by omega
            have lg := hgl
            obtain ⟨y0, hy0⟩ := Option.isSome_iff_exists.1 (ht 0 (by omega)).1
            have fy0 := (ht 0 (by omega)).2
            obtain ⟨y1, hy1⟩ := Option.isSome_iff_exists.1 (ht 1 (by omega)).1
            have fy1 := (ht 1 (by omega)).2
            obtain ⟨y2, hy2⟩ := Option.isSome_iff_exists.1 (ht 2 (by omega)).1
            have fy2 := (ht 2 (by omega)).2
            obtain ⟨y3, hy3⟩ := Option.isSome_iff_exists.1 (ht 3 (by omega)).1
            have fy3 := (ht 3 (by omega)).2
            obtain ⟨y4, hy4⟩ := Option.isSome_iff_exists.1 (ht 4 (by omega)).1
            have fy4 := (ht 4 (by omega)).2
            obtain ⟨y5, hy5⟩ := Option.isSome_iff_exists.1 (ht 5 (by omega)).1
            have fy5 := (ht 5 (by omega)).2
            rw [Nat.add_zero] at hy0 fy0
            have lB := hB.1
            have xB_0 := hB.cell 0 _ rfl
            have xB_1 := hB.cell 1 _ rfl
            have xB_2 := hB.cell 2 _ rfl
            have xB_3 := hB.cell 3 _ rfl
            have xB_4 := hB.cell 4 _ rfl
            have xB_5 := hB.cell 5 _ rfl
            have hne : B ≠ g := by have := HB.out.1; omega
            have HJ := Lib.hid hjk
            have HOO := Lib.hid hoo
            have HGB := Lib.hid hgb
            have HHB := Lib.hid hB
            have HTH := Lib.hid ht
            clear hjk hoo hgb hgl hB ht
            go_upto_region 9 with fail
            go_region
            have HR12 := Lib.hid (show Sty.RdP (w12.setCells g oo (Sty.cP ⟨p.k, p.n, p.m, p.c0, p.c1, t5⟩)).drew (some ⟨g, 0, none⟩) (ps.set j ⟨p.k, p.n, p.m, p.c0, p.c1, t5⟩) by
              have h1 := HP12.out.rd.put (j := j) ⟨p.k, p.n, p.m, p.c0, p.c1, t5⟩ (by rw [HOO.out]; exact HTH.out)
              rw [HOO.out] at h1
              exact h1.keep (Below.refl _ _).drew)
            have HBW := Lib.hid (Sty.below_grown HB12.out (Sty.grown_put g (Sty.cP ⟨p.k, p.n, p.m, p.c0, p.c1, t5⟩) oo w12) HGB.out HB12.out.size).drew
            clear y0 hy0 fy0 y1 hy1 fy1 y2 hy2 fy2 y3 hy3 fy3 y4 hy4 fy4 y5 hy5 fy5 lB xB_0 xB_1 xB_2 xB_3 xB_4 xB_5 tw tk lg hne e1
            go_wp2_with fail
            go_meet
            case rel => exact ⟨rfl, ⟨_, Lib.hid ⟨by simp [HPL.out], HR12.out⟩⟩, HBW⟩
        case rest =>
          obtain ⟨rfl, ⟨qs, HQS⟩, hBx⟩ := hcut
          have hB := HB.out.keep hBx.out
          have HP9 := Lib.hid (HP.out.rd.keep hBx.out)
          have HW := Lib.hid (HW2.out.trans (hBx.out.mono HW2.out.size))
          clear HB HP HW2 HO HB12 HP12 hBx HR HBe
          have xB_0 := hB.cell 0 _ rfl
          have xB_1 := hB.cell 1 _ rfl
          have xB_2 := hB.cell 2 _ rfl
          have xB_3 := hB.cell 3 _ rfl
          have xB_4 := hB.cell 4 _ rfl
          have xB_5 := hB.cell 5 _ rfl
          go_upto_region 11 with fail
          have HP9 := Lib.hid (HP9.out.keep (below_box wc (.cells #[.int .i64 p.k, .int .i64 p.n, .int .i64 p.m, .int .i64 p.c0, .int .i64 p.c1, .string t5] 48)))
          have HQ9 := Lib.hid (HQS.out.2.keep (below_box wc (.cells #[.int .i64 p.k, .int .i64 p.n, .int .i64 p.m, .int .i64 p.c0, .int .i64 p.c1, .string t5] 48)))
          have HA9 := Lib.hid (Sty.RdP.one wc ⟨p.k, p.n, p.m, p.c0, p.c1, t5⟩ 48)
          have HW := Lib.hid (Par.up HW.out (below_box wc (.cells #[.int .i64 p.k, .int .i64 p.n, .int .i64 p.m, .int .i64 p.c0, .int .i64 p.c1, .string t5] 48)))
          have HET := Lib.hid (HT.out.keep HW.out)
          clear xB_0 xB_1 xB_2 xB_3 xB_4 xB_5 hB
          generalize hsx : wc.heap.size = X at HA9 ⊢
          have hA9 : Sty.RdP (wc.alloc (.cells #[.int .i64 p.k, .int .i64 p.n, .int .i64 p.m, .int .i64 p.c0, .int .i64 p.c1, .string t5] 48)) (some ⟨X, 0, none⟩) [⟨p.k, p.n, p.m, p.c0, p.c1, t5⟩] := HA9.out
          have HA9 := Lib.hid hA9
          clear hA9 hsx
          generalize wc.alloc (.cells #[.int .i64 p.k, .int .i64 p.n, .int .i64 p.m, .int .i64 p.c0, .int .i64 p.c1, .string t5] 48) = w4 at HP9 HQ9 HA9 HW HET ⊢
          go_loopw [61] (fun i wr2 => ∃ j : Nat, j ≤ 3 ∧ i = .int .i64 j ∧ Hid (Below w4.heap.size w4 wr2)) (fun i _ => 3 - (intOf i).toNat)
          case atStart => exact ⟨0, by omega, rfl, Below.refl _ _⟩
          case round =>
            obtain ⟨j, hj, rfl, hid⟩ := hrel
            by_cases hj2 : j < 3
            · have q1 : (j : Int) < 3 := by omega
              obtain ⟨C, m, d, us, hus, e1⟩ := Sty.ix3 A9 A12 (some ⟨X, 0, none⟩) k k 1 c9 c12 1 wr ps qs [⟨p.k, p.n, p.m, p.c0, p.c1, t5⟩] ⟨HPL.out, by omega, HP9.out.keep hid.out⟩ ⟨HQS.out.1, by omega, HQ9.out.keep hid.out⟩ ⟨rfl, by decide, HA9.out.keep hid.out⟩ j hj2
              have HUS := Lib.hid hus
              have HE := Lib.hid (HET.out.e.keep hid.out)
              clear hus hj2
              go_upto_region 14 with (go_at_call 18; refine (params_any C m d us _ HE.out HUS.out.1.symm HUS.out.2.2 (by have := HUS.out.2.1; omega)).mono ?_; rintro e W1 h0; obtain ⟨v1, rfl, h1, hb⟩ := pars_at h0; have R1 := Lib.hid h1; have HU2 := Lib.hid (HUS.out.2.2.keep hb); have hid := Lib.hid (Par.up hid.out hb); clear h0 h1 hb)
              go_upto_region 15 with (go_at_call 19; refine (rparams_any C m d us _ HUS.out.1.symm HU2.out (by have := HUS.out.2.1; omega)).mono ?_; rintro e W2 h0; obtain ⟨v2, rfl, h1, hb⟩ := pars_at h0; have R2 := Lib.hid h1; have R1 := Lib.hid (R1.out.keep hb); have hid := Lib.hid (Par.up hid.out hb); clear h0 h1 hb)
              have HS := Lib.hid (psame_at v1 v2 _ W2 R1.out R2.out (parsV_len us))
              generalize (parsV us).2 = er
              go_wp2_with (go_at_call 20; refine HS.out.mono ?_; rintro e W3 ⟨rfl, hb⟩; have hid := Lib.hid (Par.up hid.out hb); clear hb HS)
              go_roundw
              case rel => exact ⟨j + 1, by omega, by go_num, hid⟩
              case measure => simp [intOf]; omega
            · obtain rfl : j = 3 := by omega
              have HWK := Lib.hid (works_any wr (HET.out.keep hid.out))
              go_wp2_with (go_at_call 16; refine HWK.out.mono ?_; rintro e W4 ⟨rfl, hb⟩; have HW := Lib.hid (Par.up (Par.up HW.out hid.out) hb); clear hb)
              go_ret
              exact ⟨rfl, HW.out⟩
end Go.Proofs.YteepfecplabinaaDoor.Sgr
