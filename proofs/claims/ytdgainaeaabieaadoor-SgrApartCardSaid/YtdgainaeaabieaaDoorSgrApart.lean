/-
  The walk of the law SgrApart.
-/
import Derived.Deep.RegionHeld3
import Derived.Deep.AppendLies
import Derived.Test.YtdgainaeaabieaaDoorM14
import Derived.Test.YtdgainaeaabieaaDoorM34
namespace Go.Proofs.YtdgainaeaabieaaDoor.Sgr
open Go.RowKit Utf

set_option maxRecDepth 100000 in
set_option maxHeartbeats 4000000 in
theorem apart_any (ds es : List Sty.D8) (A B : Option Addr) (n c m d : Nat) (s : Sty.S8) (hn : ds.length = n) (hm : es.length = m) (w : World) (het : EnvT w) (hr : Sty.RdD w A ds) (hq : Sty.RdD w B es) :
    Calls Tryd.prog 8 #[.slice A n c, .slice B m d, Sty.stV s] w fun e w' => e = .returned (.bool true) ∧ Below w.heap.size w w' := by
  have HT := Lib.hid het
  have HR := Lib.hid hr
  have HQ := Lib.hid hq
  have HN := Lib.hid hn
  have HM := Lib.hid hm
  have HX := Lib.hid (show Par.Box (w.alloc (.cells #[.int .i64 s.a, .int .i64 s.u, .int .i64 s.f0, .int .i64 s.f1, .int .i64 s.b0, .int .i64 s.b1, .int .i64 s.l0, .int .i64 s.l1] 68)) w.heap.size [.int .i64 s.a, .int .i64 s.u, .int .i64 s.f0, .int .i64 s.f1, .int .i64 s.b0, .int .i64 s.b1, .int .i64 s.l0, .int .i64 s.l1] from Par.Box.new w _ _)
  unfold Sty.stV
  clear het hr hq hn hm
  go_enter Tryd.func8, Tryd.ntmps8
  go_upto_region 3 with (go_at_call 16; refine (works_any _ (HT.out.keep (below_box _ _))).mono ?_; rintro e U ⟨rfl, hb⟩; have HB := Lib.hid (Par.up (below_box _ _) hb); have HX := Lib.hid (HX.out.keep hb); clear hb)
  have HlX := Lib.hid (show w.heap.size < U.heap.size from HX.out.1)
  generalize hBS : w.heap.size = BS at HX HlX ⊢
  have HBS := Lib.hid hBS
  clear hBS
  go_upto_region 4 with fail
  go_wp2_with fail
  go_loopw [7, 9] (fun v i wr => ∃ k : Nat, k ≤ n ∧ k ≤ 8 ∧ i = .int .i64 k ∧ Hid (Sty.OwnP wr U.heap.size v (pPs (qdl ds k)) ∧ Below U.heap.size U wr)) (fun _ i _ => 8 - (intOf i).toNat)
  case atStart => exact ⟨0, by omega, by omega, rfl, World.ownsRow_nil _ _ _ _, Below.refl _ _⟩
  case round =>
    obtain ⟨k, hk, hk15, rfl, hid⟩ := hrel
    by_cases hk2 : k < n ∧ k < 8
    · have q1 : (k : Int) < (n : Int) := by omega
      have q2 : (k : Int) < 8 := by omega
      obtain ⟨x, hx⟩ : ∃ x, ds[k]? = some x := ⟨_, List.getElem?_eq_getElem (by have := HN.out; omega)⟩
      obtain ⟨b, o', rfl, hbl, hrg⟩ := HR.out k x hx
      have e1 := fun W => Sty.ixD_run b o' n c k hk2.1 W
      generalize o' + k * 8 = oo at e1 hrg
      have hB := Par.up HB.out hid.out.2
      have x0 : wr.cell? ⟨b, oo, none⟩ = _ := (hB.cell (p := ⟨b, oo, none⟩) hbl).trans (hrg 0 _ rfl)
      have x1 : wr.cell? ⟨b, oo + 1, none⟩ = _ := (hB.cell (p := ⟨b, oo + 1, none⟩) hbl).trans (hrg 1 _ rfl)
      have x2 : wr.cell? ⟨b, oo + 2, none⟩ = _ := (hB.cell (p := ⟨b, oo + 2, none⟩) hbl).trans (hrg 2 _ rfl)
      have x3 : wr.cell? ⟨b, oo + 3, none⟩ = _ := (hB.cell (p := ⟨b, oo + 3, none⟩) hbl).trans (hrg 3 _ rfl)
      have x4 : wr.cell? ⟨b, oo + 4, none⟩ = _ := (hB.cell (p := ⟨b, oo + 4, none⟩) hbl).trans (hrg 4 _ rfl)
      have x5 : wr.cell? ⟨b, oo + 5, none⟩ = _ := (hB.cell (p := ⟨b, oo + 5, none⟩) hbl).trans (hrg 5 _ rfl)
      have x6 : wr.cell? ⟨b, oo + 6, none⟩ = _ := (hB.cell (p := ⟨b, oo + 6, none⟩) hbl).trans (hrg 6 _ rfl)
      have x7 : wr.cell? ⟨b, oo + 7, none⟩ = _ := (hB.cell (p := ⟨b, oo + 7, none⟩) hbl).trans (hrg 7 _ rfl)
      have HP := Lib.hid (pen9_any x wr)
      unfold qV at HP
      have HS := Lib.hid (qdl_snoc ds k x hx)
      have HL := Lib.hid (qdl_len ds k (by have := HN.out; omega))
      clear hB hrg hbl hx
      generalize hq : qD x = q at HP HS
      clear hq
      go_wp2_with fail
      refine HP.out.mono ?_
      rintro e wB ⟨rfl, hb⟩
      have HO := Lib.hid (hid.out.1.keep hb)
      have HB2 := Lib.hid (Par.up hid.out.2 hb)
      clear hb x0 x1 x2 x3 x4 x5 x6 x7 e1 hid
      go_wp2_with (at_builtin; refine Sty.wpList_appP _ rfl _ _ rfl U.heap.size _ (pPs (qdl ds k)) rfl (HO.out.keep (below_box wB _)) (some ⟨wB.heap.size, 0, none⟩) 1 1 [pP q] rfl rfl (Sty.RdP.one wB (pP q) 48) (fun h => by cases h) ?hl ?hb0 ?_; rotate_left 2; intro v3 w11 hown3 hb3; rw [HS.out] at hown3; have HO := Lib.hid hown3; have HB2 := Lib.hid ((Par.up HB2.out (below_box wB _)).trans hb3); clear hown3 hb3)
      case hl => simp only [pPs, List.length_map]; have := HL.out; omega
      case hb0 => have := HB2.out.size; simp; omega
      go_roundw
      case rel => exact ⟨k + 1, by omega, by omega, by go_num, HO.out, HB2.out⟩
      case measure => simp [intOf]; omega
    · have hG := fine_of ds k (by have := HN.out; omega) hk15
      have hql := qdl_len ds k (by have := HN.out; omega)
      have hO := hid.out.1
      have HB2 := Lib.hid hid.out.2
      obtain ⟨A0, c0, hs0, hr0⟩ := own_form hO
      rw [hql] at hs0
      subst hs0
      have HR0 := Lib.hid hr0
      have HG := Lib.hid hG
      have HL := Lib.hid hql
      have HK := Lib.hid hk2
      have HU := Lib.hid (Par.up HB.out HB2.out)
      have HX2 := Lib.hid (HX.out.keep HB2.out)
      clear hG hO hr0 hql hid hk2 HR
      go_upto_region 5 with fail
      go_cut [32] from 25 to 32 (fun v wx => v = .bool false ∧ wx = wr)
      case first =>
        rcases Nat.lt_or_ge k n with q1 | q1
        all_goals have q2 := HK.out
        · have g1 : (k : Int) < (n : Int) := by omega
          have g2 : ¬ (k : Int) < 8 := by omega
          clear q1 q2 HK
          go_wp2_with fail
          go_meet
          exact ⟨rfl, rfl⟩
        · have g1 : ¬ (k : Int) < (n : Int) := by omega
          clear q1 q2 HK
          go_wp2_with fail
          go_meet
          exact ⟨rfl, rfl⟩
      case rest =>
        obtain ⟨rfl, rfl⟩ := hcut
        clear HB HX HK
        have HB := HU
        have HX := HX2
        have HlX := Lib.hid (show BS < wc.heap.size from HX.out.1)
        clear HU HX2 HB2
        go_upto_region 9 with fail
        go_loopw [8, 10] (fun v i wr => ∃ j : Nat, j ≤ m ∧ j ≤ 8 ∧ i = .int .i64 j ∧ Hid (Sty.OwnP wr wc.heap.size v (pPs (qdl es j)) ∧ Below wc.heap.size wc wr)) (fun _ i _ => 8 - (intOf i).toNat)
        case atStart => exact ⟨0, by omega, by omega, rfl, World.ownsRow_nil _ _ _ _, Below.refl _ _⟩
        case round =>
          obtain ⟨j, hj, hj8, rfl, hid⟩ := hrel
          by_cases hk2 : j < m ∧ j < 8
          · have q1 : (j : Int) < (m : Int) := by omega
            have q2 : (j : Int) < 8 := by omega
            obtain ⟨x, hx⟩ : ∃ x, es[j]? = some x := ⟨_, List.getElem?_eq_getElem (by have := HM.out; omega)⟩
            obtain ⟨b, o', rfl, hbl, hrg⟩ := HQ.out j x hx
            have e1 := fun W => Sty.ixD_run b o' m d j hk2.1 W
            generalize o' + j * 8 = oo at e1 hrg
            have hB := Par.up HB.out hid.out.2
            have x0 : wr.cell? ⟨b, oo, none⟩ = _ := (hB.cell (p := ⟨b, oo, none⟩) hbl).trans (hrg 0 _ rfl)
            have x1 : wr.cell? ⟨b, oo + 1, none⟩ = _ := (hB.cell (p := ⟨b, oo + 1, none⟩) hbl).trans (hrg 1 _ rfl)
            have x2 : wr.cell? ⟨b, oo + 2, none⟩ = _ := (hB.cell (p := ⟨b, oo + 2, none⟩) hbl).trans (hrg 2 _ rfl)
            have x3 : wr.cell? ⟨b, oo + 3, none⟩ = _ := (hB.cell (p := ⟨b, oo + 3, none⟩) hbl).trans (hrg 3 _ rfl)
            have x4 : wr.cell? ⟨b, oo + 4, none⟩ = _ := (hB.cell (p := ⟨b, oo + 4, none⟩) hbl).trans (hrg 4 _ rfl)
            have x5 : wr.cell? ⟨b, oo + 5, none⟩ = _ := (hB.cell (p := ⟨b, oo + 5, none⟩) hbl).trans (hrg 5 _ rfl)
            have x6 : wr.cell? ⟨b, oo + 6, none⟩ = _ := (hB.cell (p := ⟨b, oo + 6, none⟩) hbl).trans (hrg 6 _ rfl)
            have x7 : wr.cell? ⟨b, oo + 7, none⟩ = _ := (hB.cell (p := ⟨b, oo + 7, none⟩) hbl).trans (hrg 7 _ rfl)
            have HP := Lib.hid (pen9_any x wr)
            unfold qV at HP
            have HS := Lib.hid (qdl_snoc es j x hx)
            have HL2 := Lib.hid (qdl_len es j (by have := HM.out; omega))
            clear hB hrg hbl hx
            generalize hq : qD x = q at HP HS
            clear hq
            go_wp2_with fail
            refine HP.out.mono ?_
            rintro e wB ⟨rfl, hb⟩
            have HO := Lib.hid (hid.out.1.keep hb)
            have HB2 := Lib.hid (Par.up hid.out.2 hb)
            clear hb x0 x1 x2 x3 x4 x5 x6 x7 e1 hid
            go_wp2_with (at_builtin; refine Sty.wpList_appP _ rfl _ _ rfl wc.heap.size _ (pPs (qdl es j)) rfl (HO.out.keep (below_box wB _)) (some ⟨wB.heap.size, 0, none⟩) 1 1 [pP q] rfl rfl (Sty.RdP.one wB (pP q) 48) (fun h => by cases h) ?hl ?hb0 ?_; rotate_left 2; intro v3 w11 hown3 hb3; rw [HS.out] at hown3; have HO := Lib.hid hown3; have HB2 := Lib.hid ((Par.up HB2.out (below_box wB _)).trans hb3); clear hown3 hb3)
            case hl => simp only [pPs, List.length_map]; have := HL2.out; omega
            case hb0 => have := HB2.out.size; simp; omega
            go_roundw
            case rel => exact ⟨j + 1, by omega, by omega, by go_num, HO.out, HB2.out⟩
            case measure => simp [intOf]; omega
          · have hGa := HG.out
            have hG := fine_of es j (by have := HM.out; omega) hj8
            have hG2 := both_fine ds es k j (by have := HN.out; omega) (by have := HM.out; omega) hk15 hj8
            have hql := qdl_len es j (by have := HM.out; omega)
            obtain ⟨A1, c1, hs0, hr1⟩ := own_form hid.out.1
            rw [hql] at hs0
            subst hs0
            have HK := Lib.hid hk2
            have HR1 := Lib.hid hr1
            have HG1 := Lib.hid hG
            have HG2 := Lib.hid hG2
            have HL1 := Lib.hid hql
            have HR0 := Lib.hid (HR0.out.keep hid.out.2)
            have HX := Lib.hid (HX.out.keep hid.out.2)
            have HB := Lib.hid (Par.up HB.out hid.out.2)
            have HlX := Lib.hid (show BS < wr.heap.size from HX.out.1)
            clear hGa hG hG2 hql hr1 hid hk2 HQ
            go_upto_region 9 with fail
            go_cut [50] from 43 to 50 (fun v wx => v = .bool false ∧ wx = wr)
            case first =>
              rcases Nat.lt_or_ge j m with q1 | q1
              all_goals have q2 := HK.out
              · have g1 : (j : Int) < (m : Int) := by omega
                have g2 : ¬ (j : Int) < 8 := by omega
                clear q1 q2 HK
                go_wp2_with fail
                go_meet
                exact ⟨rfl, rfl⟩
              · have g1 : ¬ (j : Int) < (m : Int) := by omega
                clear q1 q2 HK
                go_wp2_with fail
                go_meet
                exact ⟨rfl, rfl⟩
            case rest =>
              obtain ⟨rfl, rfl⟩ := hcut
              clear HK HM HN
              go_upto_region 12 with fail
              have HE := Lib.hid HT.out.e
              obtain ⟨us, hus⟩ : ∃ us, us = qdl ds k := ⟨_, rfl⟩
              obtain ⟨vs, hvs⟩ : ∃ vs, vs = qdl es j := ⟨_, rfl⟩
              rw [← hus] at HG HG2 HL HR0
              rw [← hvs] at HG1 HG2 HL1 HR1
              clear hus hvs
              have HP := Lib.hid (params_fine wc (HE.out.keep HB.out) A0 k c0 us HG.out HL.out.symm HR0.out)
              go_upto_region 13 with (go_at_call 18; refine HP.out.mono ?_; rintro e V1 ⟨B1, d1, rfl, r1, hb⟩; have HP1 := Lib.hid r1; have HR0 := Lib.hid (HR0.out.keep hb); have HR1 := Lib.hid (HR1.out.keep hb); have HX := Lib.hid (HX.out.keep hb); have HB := Lib.hid (Par.up HB.out hb); clear r1 hb HP)
              have HP := Lib.hid (params_fine V1 (HE.out.keep HB.out) A1 j c1 vs HG1.out HL1.out.symm HR1.out)
              go_upto_region 14 with (go_at_call 18; refine HP.out.mono ?_; rintro e V2 ⟨B2, d2, rfl, r1, hb⟩; have HP2 := Lib.hid r1; have HP1 := Lib.hid (HP1.out.keep hb); have HR0 := Lib.hid (HR0.out.keep hb); have HR1 := Lib.hid (HR1.out.keep hb); have HX := Lib.hid (HX.out.keep hb); have HB := Lib.hid (Par.up HB.out hb); clear r1 hb HP)
              obtain ⟨N, hN⟩ : ∃ N, N = k + j := ⟨_, rfl⟩
              have HN := Lib.hid hN
              have HLN := Lib.hid (show (us ++ vs).length = N by rw [List.length_append, HL.out, HL1.out, hN])
              have hN16 : N ≤ 16 := by have := HG2.out.le; have := HLN.out; omega
              have HN16 := Lib.hid hN16
              clear hN hN16
              have z0 := ownP_zero V2
              have Z0 := Lib.hid z0
              clear z0
              go_upto_region 15 with (first
                | (at_builtin; refine Sty.wpList_appP _ rfl _ _ rfl V2.heap.size _ (pPs []) rfl Z0.out A0 k c0 (pPs us) rfl (by unfold pPs; rw [List.length_map]; exact HL.out) (HR0.out.keep (below_box _ _)) (fun h => by have := rdP_none HR0.out h; unfold pPs at this; rw [List.length_map, HL.out] at this; exact this) (by show 0 + k ≤ 100000; omega) (by simp) ?_; intro v3 w3 hown3 hb3; have HO := Lib.hid hown3; have HB3 := Lib.hid ((below_box V2 _).trans hb3); clear hown3 hb3)
                | (at_builtin; refine Sty.wpList_appP _ rfl _ _ rfl V2.heap.size _ (pPs [] ++ pPs us) rfl HO.out A1 j c1 (pPs vs) rfl (by unfold pPs; rw [List.length_map]; exact HL1.out) (HR1.out.keep HB3.out) (fun h => by have := rdP_none HR1.out h; unfold pPs at this; rw [List.length_map, HL1.out] at this; exact this) (by simp only [pPs, List.length_append, List.length_map, List.length_nil, HL.out]; omega) HB3.out.size ?_; intro v4 w4 hown4 hb4; rw [← pPs_app, ← pPs_app, List.nil_append] at hown4; obtain ⟨A2, c2, hs2, hr2⟩ := own_form hown4; rw [HLN.out] at hs2; subst hs2; have HB4 := Lib.hid (HB3.out.trans hb4); have HR2 := Lib.hid hr2; clear hown4 hb4 hr2 HO HB3)
                | (go_at_call 18; refine (params_fine _ (HE.out.keep (Par.up HB.out HB4.out)) A2 N c2 (us ++ vs) HG2.out HLN.out.symm HR2.out).mono ?_; rintro e V4 ⟨B3, d3, rfl, r1, hb⟩; have HP3 := Lib.hid r1; have HP1 := Lib.hid ((HP1.out.keep HB4.out).keep hb); have HP2 := Lib.hid ((HP2.out.keep HB4.out).keep hb); have HR0 := Lib.hid ((HR0.out.keep HB4.out).keep hb); have HR1 := Lib.hid ((HR1.out.keep HB4.out).keep hb); have HX := Lib.hid ((HX.out.keep HB4.out).keep hb); have HB := Lib.hid (Par.up (Par.up HB.out HB4.out) hb); clear r1 hb HB4 HR2))
              obtain ⟨i0, hi0, hz0, hz1, hz2⟩ := info_parts Par.infoP
              obtain ⟨xs1, hl1, -, hrd1, ho1, hri1⟩ := rl_parts HP1.out
              obtain ⟨xs2, hl2, -, hrd2, ho2, hri2⟩ := rl_parts HP2.out
              have h1k : xs1.length = k := by rw [hl1, List.length_map, HL.out]
              have h2j : xs2.length = j := by rw [hl2, List.length_map, HL1.out]
              have S1 := Lib.hid (And.intro hl1 (And.intro hrd1 (And.intro ho1 (And.intro hri1 h1k))))
              have S2 := Lib.hid (And.intro hl2 (And.intro hrd2 (And.intro ho2 (And.intro hri2 h2j))))
              have SI := Lib.hid (And.intro hi0 (And.intro hz0 (And.intro hz1 hz2)))
              have Z0 := Lib.hid (own_zero V4)
              clear hl1 hl2 hrd1 hrd2 ho1 ho2 hri1 hri2 h1k h2j hi0 hz0 hz1 hz2
              go_upto_region 17 with (first
                | (at_builtin; refine wpList_appG _ (by rfl) _ _ 22 rfl V4.heap.size 41 i0 _ 24 Tryd.underlying22 SI.out.1 SI.out.2.1 SI.out.2.2.1 SI.out.2.2.2 rfl _ 0 [] rfl Z0.out B1 k d1 xs1 rfl S1.out.2.2.2.2 (S1.out.2.1.below (below_box _ _)) S1.out.2.2.1 (by omega) (by decide) (by simp) ?_; intro v5 w5 hown5 hb5; have HO := Lib.hid hown5; have HB5 := Lib.hid ((below_box V4 _).trans hb5); clear hown5 hb5)
                | (at_builtin; refine wpList_appG _ (by rfl) _ _ 22 rfl V4.heap.size 41 i0 _ 24 Tryd.underlying22 SI.out.1 SI.out.2.1 SI.out.2.2.1 SI.out.2.2.2 rfl _ (0 + k) ([] ++ xs1) rfl HO.out B2 j d2 xs2 rfl S2.out.2.2.2.2 (S2.out.2.1.below HB5.out) S2.out.2.2.1 (by omega) (by decide) HB5.out.size ?_; intro v6 w6 hown6 hb6; rw [List.nil_append] at hown6; have HB6 := Lib.hid (HB5.out.trans hb6); have HR := Lib.hid (both_rl hown6 S1.out.1 S2.out.1 (fun a x p hx hp => (S1.out.2.2.2.1 a x p hx hp).keep HB6.out) (fun a x p hx hp => (S2.out.2.2.2.1 a x p hx hp).keep HB6.out)); clear hown6 hb6 HO HB5)
                | (go_at_call 20; refine (rsame_fine _ _ _ us vs HG2.out (HP3.out.keep HB6.out) HR.out).mono ?_; rintro e V5 ⟨rfl, hb⟩; have HB7 := Lib.hid (Par.up HB6.out hb); have HP3 := Lib.hid (HP3.out.keep HB7.out); have HR0 := Lib.hid (HR0.out.keep HB7.out); have HR1 := Lib.hid (HR1.out.keep HB7.out); have HX := Lib.hid (HX.out.keep HB7.out); have HB := Lib.hid (Par.up HB.out HB7.out); clear hb HB6 HR HB7 HP1 HP2 S1 S2 Z0))
              clear SI
              rcases Nat.eq_zero_or_pos N with h0 | h0
              · have hz : us ++ vs = [] := List.eq_nil_of_length_eq_zero (by rw [HLN.out]; exact h0)
                have h3 := HP3.out
                rw [hz] at h3
                subst h0
                have HP3 := Lib.hid h3
                clear h3 hz
                go_upto_region 18 with (go_at_call 13; refine (pens_none _ (HE.out.keep HB.out) _ HP3.out).mono ?_; rintro e V6 ⟨B5, d5, rfl, hb⟩; have HB := Lib.hid (Par.up HB.out hb); clear hb)
                go_wp2_with fail
                go_ret
                exact ⟨rfl, HB.out⟩
              · have g0 : ¬ (N : Int) = 0 := by omega
                have HP := Lib.hid (pens_fine V5 (HE.out.keep HB.out) (.slice B3 N d3) N (us ++ vs) HG2.out HLN.out.symm h0 HP3.out)
                obtain ⟨ra, ru, rf, rg, rb, rc, rl, rm, rz, hrun⟩ := run_fine s (us ++ vs) N HLN.out HN16.out
                have HRU := Lib.hid hrun
                clear hrun h0
                go_upto_region 18 with (go_at_call 13; refine HP.out.mono ?_; rintro e V6 ⟨B5, d5, rfl, r1, hb⟩; have HR5 := Lib.hid r1; have HR0 := Lib.hid (HR0.out.keep hb); have HR1 := Lib.hid (HR1.out.keep hb); have HX := Lib.hid (HX.out.keep hb); have HB := Lib.hid (Par.up HB.out hb); clear r1 hb HP)
                have x0 := HX.out.cell 0 _ rfl
                have x1 := HX.out.cell 1 _ rfl
                have x2 := HX.out.cell 2 _ rfl
                have x3 := HX.out.cell 3 _ rfl
                have x4 := HX.out.cell 4 _ rfl
                have x5 := HX.out.cell 5 _ rfl
                have x6 := HX.out.cell 6 _ rfl
                have x7 := HX.out.cell 7 _ rfl
                go_upto_region 21 with (go_at_call 25; refine (HRU.out B5 d5 _ (HE.out.keep HB.out).l HR5.out).mono ?_; rintro e V7 ⟨rfl, hb⟩; have HR0 := Lib.hid (HR0.out.keep hb); have HR1 := Lib.hid (HR1.out.keep hb); have HX := Lib.hid (HX.out.keep hb); have HB := Lib.hid (Par.up HB.out hb); clear hb HR5 x0 x1 x2 x3 x4 x5 x6 x7)
                have hBb := below_box V7 (.cells #[.int .i64 ra, .int .i64 ru, .int .i64 rf, .int .i64 rg, .int .i64 rb, .int .i64 rc, .int .i64 rl, .int .i64 rm] 68)
                have HY := Lib.hid (show Par.Box (V7.alloc (.cells #[.int .i64 ra, .int .i64 ru, .int .i64 rf, .int .i64 rg, .int .i64 rb, .int .i64 rc, .int .i64 rl, .int .i64 rm] 68)) V7.heap.size [.int .i64 ra, .int .i64 ru, .int .i64 rf, .int .i64 rg, .int .i64 rb, .int .i64 rc, .int .i64 rl, .int .i64 rm] from Par.Box.new V7 _ _)
                have HR0 := Lib.hid (HR0.out.keep hBb)
                have HR1 := Lib.hid (HR1.out.keep hBb)
                have HX := Lib.hid (HX.out.keep hBb)
                have HB := Lib.hid (Par.up HB.out hBb)
                clear hBb
                generalize V7.alloc (.cells #[.int .i64 ra, .int .i64 ru, .int .i64 rf, .int .i64 rg, .int .i64 rb, .int .i64 rc, .int .i64 rl, .int .i64 rm] 68) = w8 at HY HR0 HR1 HX HB ⊢
                generalize V7.heap.size = G at HY ⊢
                go_cut [21, 22] from 121 to 130 (fun p v wx => v = .int .i64 rz ∧ ∃ g, p = .pointer (some ⟨g, 0, none⟩) ∧ Hid (Par.Box wx g [.int .i64 ra, .int .i64 ru, .int .i64 rf, .int .i64 rg, .int .i64 rb, .int .i64 rc, .int .i64 rl, .int .i64 rm] ∧ Par.Box wx G [.int .i64 ra, .int .i64 ru, .int .i64 rf, .int .i64 rg, .int .i64 rb, .int .i64 rc, .int .i64 rl, .int .i64 rm] ∧ Below w.heap.size w wx))
                case first =>
                  have x0 := HX.out.cell 0 _ rfl
                  have x1 := HX.out.cell 1 _ rfl
                  have x2 := HX.out.cell 2 _ rfl
                  have x3 := HX.out.cell 3 _ rfl
                  have x4 := HX.out.cell 4 _ rfl
                  have x5 := HX.out.cell 5 _ rfl
                  have x6 := HX.out.cell 6 _ rfl
                  have x7 := HX.out.cell 7 _ rfl
                  have hlX : BS < w8.heap.size := HX.out.1
                  have HB1a := Lib.hid (show Below w8.heap.size w8 (w8.alloc (.cells #[] 48)).drew from (below_box w8 _).drew)
                  have HB1b := Lib.hid (show Below w8.heap.size w8 ((w8.alloc (.cells #[] 48)).alloc (.cells #[.int .i64 0, .int .i64 0, .int .i64 0, .int .i64 0, .int .i64 0, .int .i64 0, .int .i64 0, .int .i64 0] 68)).drew from ((below_box w8 _).alloc (by simp) _).drew)
                  have HB1c := Lib.hid (show Below w8.heap.size w8 ((w8.alloc (.cells #[.int .i64 0, .int .i64 0, .int .i64 0, .int .i64 0, .int .i64 0, .int .i64 0, .int .i64 0, .int .i64 0] 68)).alloc (.cells #[] 48)).drew from ((below_box w8 _).alloc (by simp) _).drew)
                  have Za := Lib.hid (show Sty.OwnP (w8.alloc (.cells #[] 48)).drew w8.heap.size (.slice (some ⟨w8.heap.size, 0, none⟩) 0 0) (pPs []) from (ownP_zero w8).keep ((Below.refl _ _).drew))
                  have Zb := Lib.hid (show Sty.OwnP ((w8.alloc (.cells #[] 48)).alloc (.cells #[.int .i64 0, .int .i64 0, .int .i64 0, .int .i64 0, .int .i64 0, .int .i64 0, .int .i64 0, .int .i64 0] 68)).drew w8.heap.size (.slice (some ⟨w8.heap.size, 0, none⟩) 0 0) (pPs []) from (ownP_zero w8).keep ((below_box _ _).drew))
                  have zc := (ownP_zero (w8.alloc (.cells #[.int .i64 0, .int .i64 0, .int .i64 0, .int .i64 0, .int .i64 0, .int .i64 0, .int .i64 0, .int .i64 0] 68))).keep ((Below.refl _ _).drew)
                  rw [World.size_alloc] at zc
                  have Zc := Lib.hid (show Sty.OwnP ((w8.alloc (.cells #[.int .i64 0, .int .i64 0, .int .i64 0, .int .i64 0, .int .i64 0, .int .i64 0, .int .i64 0, .int .i64 0] 68)).alloc (.cells #[] 48)).drew w8.heap.size (.slice (some ⟨w8.heap.size + 1, 0, none⟩) 0 0) (pPs []) from own_monoP zc (by omega))
                  have fb := Fresh.new (b := w8.heap.size) (w8.alloc (.cells #[] 48)) (by simp)
                  rw [World.size_alloc] at fb
                  have Fb := Lib.hid (show Fresh w8.heap.size ((w8.alloc (.cells #[] 48)).alloc (.cells #[.int .i64 0, .int .i64 0, .int .i64 0, .int .i64 0, .int .i64 0, .int .i64 0, .int .i64 0, .int .i64 0] 68)).drew (w8.heap.size + 1) from fb.keep ((Below.refl _ _).drew))
                  have Fc := Lib.hid (show Fresh w8.heap.size ((w8.alloc (.cells #[.int .i64 0, .int .i64 0, .int .i64 0, .int .i64 0, .int .i64 0, .int .i64 0, .int .i64 0, .int .i64 0] 68)).alloc (.cells #[] 48)).drew w8.heap.size from ((Fresh.new (b := w8.heap.size) w8 (Nat.le_refl _)).keep (below_box _ _)).keep ((Below.refl _ _).drew))
                  clear zc fb
                  go_wp2_with fail
                  go_region_law (first
                    | (refine step_appG _ rfl (.tmp 123) (.tmp 124) rfl w8.heap.size (.slice (some ⟨w8.heap.size, 0, none⟩) 0 0) (pPs []) (by simp [Act.eval]) Za.out A0 k c0 (pPs us) (by simp [Act.eval]) (by unfold pPs; rw [List.length_map]; exact HL.out) (HR0.out.keep HB1a.out) (fun h => by have := rdP_none HR0.out h; unfold pPs at this; rw [List.length_map, HL.out] at this; exact this) (by show 0 + k ≤ 100000; omega) HB1a.out.size ?_; intro v13 w13 hown3 hg3; have HB3 := Lib.hid (HB1a.out.trans (below_app Za.out hg3 HB1a.out.size)); have HO := Lib.hid hown3; have HX3 := HX.out.keep HB3.out; have t0 := HX3.cell 0 _ rfl; have t1 := HX3.cell 1 _ rfl; have t2 := HX3.cell 2 _ rfl; have t3 := HX3.cell 3 _ rfl; have t4 := HX3.cell 4 _ rfl; have t5 := HX3.cell 5 _ rfl; have t6 := HX3.cell 6 _ rfl; have t7 := HX3.cell 7 _ rfl; have hl3 := HX3.1; clear hown3 hg3 HX3)
                    | (refine step_appG _ rfl (.tmp 123) (.tmp 124) rfl w8.heap.size (.slice (some ⟨w8.heap.size, 0, none⟩) 0 0) (pPs []) (by simp [Act.eval]) Zb.out A0 k c0 (pPs us) (by simp [Act.eval]) (by unfold pPs; rw [List.length_map]; exact HL.out) (HR0.out.keep HB1b.out) (fun h => by have := rdP_none HR0.out h; unfold pPs at this; rw [List.length_map, HL.out] at this; exact this) (by show 0 + k ≤ 100000; omega) HB1b.out.size ?_; intro v13 w13 hown3 hg3; have HB3 := Lib.hid (HB1b.out.trans (below_app Zb.out hg3 HB1b.out.size)); have HF := Lib.hid (Fb.out.app Zb.out hg3); have HO := Lib.hid hown3; have HX3 := HX.out.keep HB3.out; have t0 := HX3.cell 0 _ rfl; have t1 := HX3.cell 1 _ rfl; have t2 := HX3.cell 2 _ rfl; have t3 := HX3.cell 3 _ rfl; have t4 := HX3.cell 4 _ rfl; have t5 := HX3.cell 5 _ rfl; have t6 := HX3.cell 6 _ rfl; have t7 := HX3.cell 7 _ rfl; have hl3 := HX3.1; clear hown3 hg3 HX3)
                    | (refine step_appG _ rfl (.tmp 123) (.tmp 124) rfl w8.heap.size (.slice (some ⟨w8.heap.size + 1, 0, none⟩) 0 0) (pPs []) (by simp [Act.eval]) Zc.out A0 k c0 (pPs us) (by simp [Act.eval]) (by unfold pPs; rw [List.length_map]; exact HL.out) (HR0.out.keep HB1c.out) (fun h => by have := rdP_none HR0.out h; unfold pPs at this; rw [List.length_map, HL.out] at this; exact this) (by show 0 + k ≤ 100000; omega) HB1c.out.size ?_; intro v13 w13 hown3 hg3; have HB3 := Lib.hid (HB1c.out.trans (below_app Zc.out hg3 HB1c.out.size)); have HF := Lib.hid (Fc.out.app Zc.out hg3); have HO := Lib.hid hown3; have HX3 := HX.out.keep HB3.out; have t0 := HX3.cell 0 _ rfl; have t1 := HX3.cell 1 _ rfl; have t2 := HX3.cell 2 _ rfl; have t3 := HX3.cell 3 _ rfl; have t4 := HX3.cell 4 _ rfl; have t5 := HX3.cell 5 _ rfl; have t6 := HX3.cell 6 _ rfl; have t7 := HX3.cell 7 _ rfl; have hl3 := HX3.1; clear hown3 hg3 HX3)
                    | (refine step_appG _ rfl (.tmp 125) (.tmp 126) rfl w8.heap.size v13 (pPs [] ++ pPs us) (by simp [Act.eval]) HO.out A1 j c1 (pPs vs) (by simp [Act.eval]) (by unfold pPs; rw [List.length_map]; exact HL1.out) (HR1.out.keep HB3.out) (fun h => by have := rdP_none HR1.out h; unfold pPs at this; rw [List.length_map, HL1.out] at this; exact this) (by simp only [pPs, List.length_append, List.length_map, List.length_nil, HL.out]; omega) HB3.out.size ?_; intro v14 w14 hown4 hg4; have HB4 := Lib.hid (HB3.out.trans (below_app HO.out hg4 HB3.out.size)); (try have HF := Lib.hid (HF.out.app HO.out hg4)); rw [← pPs_app, ← pPs_app, List.nil_append] at hown4; obtain ⟨A2, c2, hs2, hr2⟩ := own_form hown4; rw [HLN.out] at hs2; subst hs2; have HR2 := Lib.hid hr2; have HX3 := HX.out.keep HB4.out; have t0 := HX3.cell 0 _ rfl; have t1 := HX3.cell 1 _ rfl; have t2 := HX3.cell 2 _ rfl; have t3 := HX3.cell 3 _ rfl; have t4 := HX3.cell 4 _ rfl; have t5 := HX3.cell 5 _ rfl; have t6 := HX3.cell 6 _ rfl; have t7 := HX3.cell 7 _ rfl; have hl4 := HX3.1; clear hown4 hg4 hr2 HX3)
                    | (refine step_appG _ rfl (.tmp 125) (.tmp 126) rfl w8.heap.size v13 (pPs [] ++ pPs us) (by simp [Act.eval]) (HO.out.keep (below_box w13 (.cells #[.int .i64 0, .int .i64 0, .int .i64 0, .int .i64 0, .int .i64 0, .int .i64 0, .int .i64 0, .int .i64 0] 68))) A1 j c1 (pPs vs) (by simp [Act.eval]) (by unfold pPs; rw [List.length_map]; exact HL1.out) (HR1.out.keep (HB3.out.alloc HB3.out.size (.cells #[.int .i64 0, .int .i64 0, .int .i64 0, .int .i64 0, .int .i64 0, .int .i64 0, .int .i64 0, .int .i64 0] 68))) (fun h => by have := rdP_none HR1.out h; unfold pPs at this; rw [List.length_map, HL1.out] at this; exact this) (by simp only [pPs, List.length_append, List.length_map, List.length_nil, HL.out]; omega) (HB3.out.alloc HB3.out.size (.cells #[.int .i64 0, .int .i64 0, .int .i64 0, .int .i64 0, .int .i64 0, .int .i64 0, .int .i64 0, .int .i64 0] 68)).size ?_; intro v14 w14 hown4 hg4; have HB4 := Lib.hid ((HB3.out.alloc HB3.out.size (.cells #[.int .i64 0, .int .i64 0, .int .i64 0, .int .i64 0, .int .i64 0, .int .i64 0, .int .i64 0, .int .i64 0] 68)).trans (below_app (HO.out.keep (below_box w13 (.cells #[.int .i64 0, .int .i64 0, .int .i64 0, .int .i64 0, .int .i64 0, .int .i64 0, .int .i64 0, .int .i64 0] 68))) hg4 (HB3.out.alloc HB3.out.size (.cells #[.int .i64 0, .int .i64 0, .int .i64 0, .int .i64 0, .int .i64 0, .int .i64 0, .int .i64 0, .int .i64 0] 68)).size)); have HF := Lib.hid ((Fresh.new (b := w8.heap.size) w13 HB3.out.size).app (HO.out.keep (below_box w13 (.cells #[.int .i64 0, .int .i64 0, .int .i64 0, .int .i64 0, .int .i64 0, .int .i64 0, .int .i64 0, .int .i64 0] 68))) hg4); rw [← pPs_app, ← pPs_app, List.nil_append] at hown4; obtain ⟨A2, c2, hs2, hr2⟩ := own_form hown4; rw [HLN.out] at hs2; subst hs2; have HR2 := Lib.hid hr2; have HX3 := HX.out.keep HB4.out; have t0 := HX3.cell 0 _ rfl; have t1 := HX3.cell 1 _ rfl; have t2 := HX3.cell 2 _ rfl; have t3 := HX3.cell 3 _ rfl; have t4 := HX3.cell 4 _ rfl; have t5 := HX3.cell 5 _ rfl; have t6 := HX3.cell 6 _ rfl; have t7 := HX3.cell 7 _ rfl; have hl4 := HX3.1; clear hown4 hg4 hr2 HX3)
                    | (go_simp; go_at_call 25; with_reducible refine (HRU.out A2 c2 _ (HE.out.keep (Par.up HB.out HB4.out)).l HR2.out).mono ?_; rintro e V9 ⟨rfl, hb⟩; have HB9 := Lib.hid (HB4.out.trans (hb.mono HB4.out.size)); (try have HF := Lib.hid (HF.out.keep hb)); (try (obtain ⟨s0, f0, s1, f1, s2, f2, s3, f3, s4, f4, s5, f5, s6, f6, s7, f7⟩ := HF.out.facts)); clear hb)
                    | (go_simp; go_at_call 25; with_reducible refine (HRU.out A2 c2 _ (HE.out.keep (Par.up HB.out (HB4.out.alloc HB4.out.size (.cells #[.int .i64 0, .int .i64 0, .int .i64 0, .int .i64 0, .int .i64 0, .int .i64 0, .int .i64 0, .int .i64 0] 68)))).l (HR2.out.keep (below_box w14 (.cells #[.int .i64 0, .int .i64 0, .int .i64 0, .int .i64 0, .int .i64 0, .int .i64 0, .int .i64 0, .int .i64 0] 68)))).mono ?_; rintro e V9 ⟨rfl, hb⟩; have HB9 := Lib.hid ((HB4.out.alloc HB4.out.size (.cells #[.int .i64 0, .int .i64 0, .int .i64 0, .int .i64 0, .int .i64 0, .int .i64 0, .int .i64 0, .int .i64 0] 68)).trans (hb.mono (HB4.out.alloc HB4.out.size (.cells #[.int .i64 0, .int .i64 0, .int .i64 0, .int .i64 0, .int .i64 0, .int .i64 0, .int .i64 0, .int .i64 0] 68)).size)); have HF := Lib.hid ((Fresh.new (b := w8.heap.size) w14 HB4.out.size).keep hb); obtain ⟨s0, f0, s1, f1, s2, f2, s3, f3, s4, f4, s5, f5, s6, f6, s7, f7⟩ := HF.out.facts; clear hb))
                  all_goals
                    go_wp2_with fail
                    go_meet
                    refine ⟨rfl, _, rfl, ?_⟩
                    first
                    | with_reducible exact Lib.hid (fresh_whole ra ru rf rg rb rc rl rm HB9.out HY.out HB.out)
                    | with_reducible exact Lib.hid (fresh_fill ra ru rf rg rb rc rl rm HF.out HB9.out HY.out HB.out)
                case rest =>
                  obtain ⟨rfl, g, rfl, hid⟩ := hcut
                  have y0 := hid.out.1.cell 0 _ rfl
                  have y1 := hid.out.1.cell 1 _ rfl
                  have y2 := hid.out.1.cell 2 _ rfl
                  have y3 := hid.out.1.cell 3 _ rfl
                  have y4 := hid.out.1.cell 4 _ rfl
                  have y5 := hid.out.1.cell 5 _ rfl
                  have y6 := hid.out.1.cell 6 _ rfl
                  have y7 := hid.out.1.cell 7 _ rfl
                  have z0 := hid.out.2.1.cell 0 _ rfl
                  have z1 := hid.out.2.1.cell 1 _ rfl
                  have z2 := hid.out.2.1.cell 2 _ rfl
                  have z3 := hid.out.2.1.cell 3 _ rfl
                  have z4 := hid.out.2.1.cell 4 _ rfl
                  have z5 := hid.out.2.1.cell 5 _ rfl
                  have z6 := hid.out.2.1.cell 6 _ rfl
                  have z7 := hid.out.2.1.cell 7 _ rfl
                  have eS := fun W => (Sty.eqlS ra ru rf rg rb rc rl rm ra ru rf rg rb rc rl rm W).trans (by rw [Sty.eqS_self])
                  go_wp2_with fail
                  go_ret
                  exact ⟨rfl, hid.out.2.2⟩
end Go.Proofs.YtdgainaeaabieaaDoor.Sgr
