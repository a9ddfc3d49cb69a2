/-
  The walk of the law UtfBack: it returns true, whatever its arguments; nothing that lay before the call has turned.
-/
import Derived.Test.YtciklknbllblmaaDoorUtfM
import Derived.Test.YtciklknbllblmaaDoorUtfN
namespace Go.Proofs.YtciklknbllblmaaDoor.Utf
open Go.RowKit

theorem Rd.take {w : World} {A : Option Addr} {xs : List Value} (h : Rd w A xs) (k : Nat) : Rd w A (xs.take k) := fun j u hu => by
  by_cases hj : j < k
  · exact h j u (by rw [List.getElem?_take_of_lt hj] at hu; exact hu)
  · rw [List.getElem?_take, if_neg hj] at hu; cases hu
theorem cI_take (zs : List Int) (k : Nat) : cI (zs.take k) = (cI zs).take k := by simp [cI]
theorem cB_take (zs : List UInt8) (k : Nat) : cB (zs.take k) = (cB zs).take k := by simp [cB]
theorem rep_take (zs : List Int) (k : Nat) (z : Int) (h : zs[k]? = some z) : (zs.take (k + 1)).map rep = (zs.take k).map rep ++ [rep z] := by
  rw [List.take_add_one, h]; simp
theorem rep_len (zs : List Int) (k : Nat) (h : k ≤ zs.length) : ((zs.take k).map rep).length = k := by simp; omega
theorem set_last (l : List Int) (z : Int) (k : Nat) (h : l.length = k) : (cI l ++ cI [z]).set k (.int .i64 65533) = cI (l ++ [65533]) := by
  subst h
  rw [List.set_append_right _ _ (by simp [cI])]
  simp [cI]
theorem text_yes (A : Option Addr) (c n : Nat) (zs : List Int) (hn : zs.length = n) (w : World) (h : Rd w A (cI zs)) (hm : Mk w) (hl : zs.length ≤ 100000) :
    Calls Tryd.prog 14 #[.slice A n c] w fun e w' => e = .returned (.string ⟨(textL zs).toArray⟩) ∧ Below w.heap.size w w' := by
  subst hn; exact text_any A c zs w h hm hl
theorem ints_at (A B : Option Addr) (c d n m : Nat) (xs ys : List Int) (hn : xs.length = n) (hm : ys.length = m) (w : World) (hx : Rd w A (cI xs)) (hy : Rd w B (cI ys)) (hl : xs.length ≤ 1000000) :
    Calls Tryd.prog 19 #[.slice A n c, .slice B m d] w fun e w' => e = .returned (.bool (eqI xs ys)) ∧ Below w.heap.size w w' := by
  subst hn; subst hm; exact ints_any A B c d xs ys w hx hy hl
theorem back_eq (xs ys : List Int) : (textL xs == textL ys) = eqI (xs.map rep) (ys.map rep) := by
  rw [← eqB_beq]
  unfold eqB eqI
  exact decide_eq_decide.2 (text_eq xs ys)

theorem cell_at {W : World} {ad : Addr} {j : Nat} {u : Value} (h : ∃ ad', some ad = some ad' ∧ ad'.block < W.heap.size ∧ W.cell? (ad'.add j) = some u) : W.cell? (ad.add j) = some u := by
  obtain ⟨_, e, _, hc⟩ := h
  cases e
  exact hc

set_option maxRecDepth 100000 in
set_option maxHeartbeats 8000000 in
theorem back_any (A B : Option Addr) (n m c d : Nat) (xs ys : List Int) (w : World) (hm : Mk w) (hx : Rd w A (cI xs)) (hy : Rd w B (cI ys)) (hn : xs.length = n) (hn2 : ys.length = m) (hc : n ≤ c) (hd : m ≤ d) (hcb : c ≤ 9223372036854775807) (hdb : d ≤ 9223372036854775807) :
    Calls Tryd.prog 6 #[.slice A n c, .slice B m d] w fun e w' => e = .returned (.bool true) ∧ Below w.heap.size w w' := by
  obtain ⟨i0, hi0, hz0, hz1, hz2⟩ := info_parts infoI
  have HM := Lib.hid hm; clear hm
  have HX := Lib.hid hx; clear hx
  have HY := Lib.hid hy; clear hy
  have Hn := Lib.hid hn; clear hn
  have Hm := Lib.hid hn2; clear hn2
  rcases (show (n ≤ 60) ∨ (60 < n) by omega) with h1 | h1 <;> rcases (show (m ≤ 60) ∨ (60 < m) by omega) with h2 | h2
  · go_enter Tryd.func6, Tryd.ntmps6
    go_wp2_with fail
    refine (works_any _ HM.out).mono ?_
    rintro e w1 ⟨rfl, hb1⟩
    go_wp2_with fail
    go_quiet (fail)
    go_wp2_with fail
    obtain ⟨w0, hw0⟩ : ∃ w0, w1.drewN nq = w0 := ⟨_, rfl⟩
    have hb2 : Below w.heap.size w w0 := by rw [← hw0]; exact below_drewN' hb1 nq
    rw [hw0]
    clear hw0 hb1
    obtain ⟨P, hP⟩ : ∃ P, xs.take n = P := ⟨_, rfl⟩
    obtain ⟨R, hR⟩ : ∃ R, ys.take m = R := ⟨_, rfl⟩
    have RX := Lib.hid (show Rd w0 A (cI P) by rw [← hP, cI_take]; exact ((HX.out).below hb2).take _)
    have RY := Lib.hid (show Rd w0 B (cI R) by rw [← hR, cI_take]; exact ((HY.out).below hb2).take _)
    have RXL := Lib.hid (show P.length = n by rw [← hP, List.length_take, Hn.out]; omega)
    have RYL := Lib.hid (show R.length = m by rw [← hR, List.length_take, Hm.out]; omega)
    clear hP hR HX HY
    go_loopw [5, 7] (fun v i wr => ∃ k : Nat, k ≤ n ∧ i = .int .i64 k ∧ Hid (wr.ownsRow w0.heap.size 3 1 v k (cI ((P.take k).map rep)) ∧ Below w0.heap.size w0 wr)) (fun _ i _ => n - (intOf i).toNat)
    case atStart => exact ⟨0, Nat.zero_le _, rfl, World.ownsRow_nil _ _ _ _, Below.refl _ _⟩
    case round =>
      obtain ⟨k, hk, rfl, hid⟩ := hrel
      by_cases hlt : k < n
      · obtain ⟨z, hzk⟩ : ∃ z, P[k]? = some z := ⟨P[k]'(by rw [RXL.out]; exact hlt), by simp⟩
        obtain ⟨ad, hAd, _, hcz⟩ := ((RX.out).below hid.out.2) k _ (cI_at P k z hzk)
        have HAd := Lib.hid hAd
        subst hAd
        have Hzk := Lib.hid hzk
        have Hrt := Lib.hid (rep_take P k z hzk)
        have Hlk := Lib.hid (rep_len P k (by rw [RXL.out]; omega)); clear hzk
        have hbz := hid.out.2.size
        have HO := Lib.hid ((hid.out.1).alloc (.cells #[.int .i64 z] 3))
        obtain ⟨q, hq⟩ : ∃ q, chk z = q := ⟨_, rfl⟩
        have Hq := Lib.hid hq; clear hq
        go_wp2_with (at_builtin; refine wpList_appB _ rfl _ _ 22 rfl w0.heap.size 3 i0 _ 8 Tryd.underlying22 hi0 hz0 hz1 hz2 rfl _ k _ rfl HO.out (some ⟨wr.heap.size, 0, none⟩) 1 1 (cI [z]) rfl (cI_len _) (Rd.one _ _ _) (cI_one _) (by omega) (by omega) (by simp; omega) ?_; intro v3 w3 hown3 hb3; obtain ⟨g, cp, hv3, hcp, hgb, hgl⟩ := own_some hown3 (by omega); subst hv3; have hb4 := (hid.out.2.alloc hbz _).trans hb3; have hcz3 : w3.cell? (ad.add k) = some (.int .i64 z) := cell_at (((RX.out).below hb4) k _ (cI_at P k z Hzk.out)); have HO3 := Lib.hid hown3; clear hown3 hb3)
        refine (check_any _ _).mono ?_
        rintro e w' ⟨rfl, rfl⟩
        rw [Hq.out]
        cases q
        · have hck := (HO3.out).cellAt k (by omega)
          have hfz := (HO3.out).frozenAt k
          have hck2 : ∃ u, w3.cell? ⟨g, k, none⟩ = some u := by
            rw [hck]
            exact ⟨_, List.getElem?_eq_getElem (by rw [(HO3.out).1]; omega)⟩
          obtain ⟨u, hu⟩ := hck2
          clear hck
          have HF := Lib.hid (show (w3.setCell ⟨g, k, none⟩ (.int .i64 65533)).ownsRow w0.heap.size 3 1 (.slice (some ⟨g, 0, none⟩) (k + 1) cp) (k + 1) (cI ((P.take (k + 1)).map rep)) ∧ Below w0.heap.size w0 (w3.setCell ⟨g, k, none⟩ (.int .i64 65533)) from
            ⟨by
              have := ((HO3.out).stored k (.int .i64 65533)).1
              rw [set_last _ z k Hlk.out] at this
              rw [Hrt.out, show rep z = 65533 by simp [rep, Hq.out]]
              exact this, hb4.setCell (p := ⟨g, k, none⟩) hgb _⟩)
          clear hb4 HO3
          go_wp2
          go_roundw
          case rel => exact ⟨k + 1, by omega, by go_num, HF⟩
          case measure => simp [intOf]; omega
        · have HF := Lib.hid (show w3.ownsRow w0.heap.size 3 1 (.slice (some ⟨g, 0, none⟩) (k + 1) cp) (k + 1) (cI ((P.take (k + 1)).map rep)) ∧ Below w0.heap.size w0 w3 from
            ⟨by rw [Hrt.out, show rep z = z by simp [rep, Hq.out], cI_append]; exact HO3.out, hb4⟩)
          clear hb4 HO3
          go_wp2
          go_roundw
          case rel => exact ⟨k + 1, by omega, by go_num, HF⟩
          case measure => simp [intOf]; omega
      · have hke : P.take k = P := List.take_of_length_le (by rw [RXL.out]; omega)
        rw [hke] at hid
        obtain rfl : n = k := by omega
        clear hke hlt hk
        obtain ⟨wa, hwa⟩ : ∃ wa, wa = wr := ⟨_, rfl⟩
        obtain rfl := hwa
        have hbX : Below w.heap.size w wa := hb2.trans (hid.out.2.mono hb2.size)
        have HOX := Lib.hid hid.out.1
        obtain ⟨A5, c5, hv5, _, hr5⟩ := own_slice hid.out.1
        subst hv5
        have RXr := Lib.hid hr5
        have RDX := Lib.hid (RX.out.below hid.out.2)
        have RDY := Lib.hid (RY.out.below hid.out.2)
        have RDYL := Lib.hid RYL.out
        clear hid hr5
        go_wp2_with fail
        go_loopw [6, 8] (fun v i wr => ∃ k : Nat, k ≤ m ∧ i = .int .i64 k ∧ Hid (wr.ownsRow wa.heap.size 3 1 v k (cI ((R.take k).map rep)) ∧ Below wa.heap.size wa wr)) (fun _ i _ => m - (intOf i).toNat)
        case atStart => exact ⟨0, Nat.zero_le _, rfl, World.ownsRow_nil _ _ _ _, Below.refl _ _⟩
        case round =>
          obtain ⟨k, hk, rfl, hid⟩ := hrel
          by_cases hlt : k < m
          · obtain ⟨z, hzk⟩ : ∃ z, R[k]? = some z := ⟨R[k]'(by rw [RDYL.out]; exact hlt), by simp⟩
            obtain ⟨ad, hAd, _, hcz⟩ := ((RDY.out).below hid.out.2) k _ (cI_at R k z hzk)
            have HAd := Lib.hid hAd
            subst hAd
            have Hzk := Lib.hid hzk
            have Hrt := Lib.hid (rep_take R k z hzk)
            have Hlk := Lib.hid (rep_len R k (by rw [RDYL.out]; omega)); clear hzk
            have hbz := hid.out.2.size
            have HO := Lib.hid ((hid.out.1).alloc (.cells #[.int .i64 z] 3))
            obtain ⟨q, hq⟩ : ∃ q, chk z = q := ⟨_, rfl⟩
            have Hq := Lib.hid hq; clear hq
            go_wp2_with (at_builtin; refine wpList_appB _ rfl _ _ 22 rfl wa.heap.size 3 i0 _ 8 Tryd.underlying22 hi0 hz0 hz1 hz2 rfl _ k _ rfl HO.out (some ⟨wr.heap.size, 0, none⟩) 1 1 (cI [z]) rfl (cI_len _) (Rd.one _ _ _) (cI_one _) (by omega) (by omega) (by simp; omega) ?_; intro v3 w3 hown3 hb3; obtain ⟨g, cp, hv3, hcp, hgb, hgl⟩ := own_some hown3 (by omega); subst hv3; have hb4 := (hid.out.2.alloc hbz _).trans hb3; have hcz3 : w3.cell? (ad.add k) = some (.int .i64 z) := cell_at (((RDY.out).below hb4) k _ (cI_at R k z Hzk.out)); have HO3 := Lib.hid hown3; clear hown3 hb3)
            refine (check_any _ _).mono ?_
            rintro e w' ⟨rfl, rfl⟩
            rw [Hq.out]
            cases q
            · have hck := (HO3.out).cellAt k (by omega)
              have hfz := (HO3.out).frozenAt k
              have hck2 : ∃ u, w3.cell? ⟨g, k, none⟩ = some u := by
                rw [hck]
                exact ⟨_, List.getElem?_eq_getElem (by rw [(HO3.out).1]; omega)⟩
              obtain ⟨u, hu⟩ := hck2
              clear hck
              have HF := Lib.hid (show (w3.setCell ⟨g, k, none⟩ (.int .i64 65533)).ownsRow wa.heap.size 3 1 (.slice (some ⟨g, 0, none⟩) (k + 1) cp) (k + 1) (cI ((R.take (k + 1)).map rep)) ∧ Below wa.heap.size wa (w3.setCell ⟨g, k, none⟩ (.int .i64 65533)) from
                ⟨by
                  have := ((HO3.out).stored k (.int .i64 65533)).1
                  rw [set_last _ z k Hlk.out] at this
                  rw [Hrt.out, show rep z = 65533 by simp [rep, Hq.out]]
                  exact this, hb4.setCell (p := ⟨g, k, none⟩) hgb _⟩)
              clear hb4 HO3
              go_wp2
              go_roundw
              case rel => exact ⟨k + 1, by omega, by go_num, HF⟩
              case measure => simp [intOf]; omega
            · have HF := Lib.hid (show w3.ownsRow wa.heap.size 3 1 (.slice (some ⟨g, 0, none⟩) (k + 1) cp) (k + 1) (cI ((R.take (k + 1)).map rep)) ∧ Below wa.heap.size wa w3 from
                ⟨by rw [Hrt.out, show rep z = z by simp [rep, Hq.out], cI_append]; exact HO3.out, hb4⟩)
              clear hb4 HO3
              go_wp2
              go_roundw
              case rel => exact ⟨k + 1, by omega, by go_num, HF⟩
              case measure => simp [intOf]; omega
          · have hke : R.take k = R := List.take_of_length_le (by rw [RDYL.out]; omega)
            rw [hke] at hid
            obtain rfl : m = k := by omega
            clear hke hlt hk
            have HO5 := Lib.hid (own_below HOX.out hid.out.2)
            have hb7 := hbX.trans (hid.out.2.mono hbX.size)
            obtain ⟨A6, c6, hv6, _, hr6⟩ := own_slice hid.out.1
            subst hv6
            have HRy := Lib.hid hr6
            have HRx := Lib.hid (RXr.out.below hid.out.2)
            have HRa := Lib.hid (RDX.out.below hid.out.2)
            have HRb := Lib.hid (RDY.out.below hid.out.2)
            clear hid hr6 HO5
            have hlP : (textL P).length ≤ 240 := by have := textL_len P; rw [RXL.out] at this; omega
            have hlR : (textL R).length ≤ 240 := by have := textL_len R; rw [RYL.out] at this; omega
            obtain ⟨q, hq⟩ : ∃ q, (textL P == textL R) = q := ⟨_, rfl⟩
            have Hq := Lib.hid (show eqI (P.map rep) (R.map rep) = q by rw [← hq, back_eq])
            have Hq2 := Lib.hid hq; clear hq
            have HcP := Lib.hid (show eqI (codesL (⟨(textL P).toArray⟩ : ByteArray).data.toList) (P.map rep) = true by rw [show (⟨(textL P).toArray⟩ : ByteArray).data.toList = textL P by simp, codes_text, eqI_self])
            have HcR := Lib.hid (show eqI (codesL (⟨(textL R).toArray⟩ : ByteArray).data.toList) (R.map rep) = true by rw [show (⟨(textL R).toArray⟩ : ByteArray).data.toList = textL R by simp, codes_text, eqI_self])
            go_wp2_with fail
            refine (text_yes A c _ P RXL.out _ HRa.out ((HM.out).keep hb7) (by rw [RXL.out]; omega)).mono ?_
            rintro e w10 ⟨rfl, hb10⟩
            have hc10 := hb7.trans (hb10.mono hb7.size)
            go_wp2_with fail
            refine (is_yes _ A5 c5 _ (P.map rep) (by rw [List.length_map, RXL.out]) _ ((HRx.out).below hb10) ((HM.out).keep hc10) (by show (textL P).length ≤ _; omega) HcP.out).mono ?_
            rintro e w11 ⟨rfl, hb11⟩
            have hd11 := hb10.trans (hb11.mono hb10.size)
            have hc11 := hc10.trans (hb11.mono hc10.size)
            clear hb10 hb11 hc10
            go_wp2_with fail
            refine (text_yes B d _ R RYL.out _ ((HRb.out).below hd11) ((HM.out).keep hc11) (by rw [RYL.out]; omega)).mono ?_
            rintro e w12 ⟨rfl, hb12⟩
            have hd12 := hd11.trans (hb12.mono hd11.size)
            have hc12 := hc11.trans (hb12.mono hc11.size)
            clear hb12 hd11 hc11
            go_wp2_with fail
            refine (is_yes _ A6 c6 _ (R.map rep) (by rw [List.length_map, RYL.out]) _ ((HRy.out).below hd12) ((HM.out).keep hc12) (by show (textL R).length ≤ _; omega) HcR.out).mono ?_
            rintro e w13 ⟨rfl, hb13⟩
            have hd13 := hd12.trans (hb13.mono hd12.size)
            have hc13 := hc12.trans (hb13.mono hc12.size)
            clear hb13 hd12 hc12
            go_wp2_with fail
            refine (text_yes A c _ P RXL.out _ ((HRa.out).below hd13) ((HM.out).keep hc13) (by rw [RXL.out]; omega)).mono ?_
            rintro e w14 ⟨rfl, hb14⟩
            have hd14 := hd13.trans (hb14.mono hd13.size)
            have hc14 := hc13.trans (hb14.mono hc13.size)
            clear hb14 hd13 hc13
            go_wp2_with fail
            refine (text_yes B d _ R RYL.out _ ((HRb.out).below hd14) ((HM.out).keep hc14) (by rw [RYL.out]; omega)).mono ?_
            rintro e w15 ⟨rfl, hb15⟩
            have hd15 := hd14.trans (hb15.mono hd14.size)
            have hc15 := hc14.trans (hb15.mono hc14.size)
            clear hb15 hd14 hc14
            have hq := Hq2.out
            go_wp2_with fail
            refine (ints_at A5 A6 c5 c6 _ _ (P.map rep) (R.map rep) (by rw [List.length_map, RXL.out]) (by rw [List.length_map, RYL.out]) _ ((HRx.out).below hd15) ((HRy.out).below hd15) (by rw [List.length_map, RXL.out]; omega)).mono ?_
            rintro e w16 ⟨rfl, hb16⟩
            rw [Hq.out]
            have hc16 := hc15.trans (hb16.mono hc15.size)
            clear hb16 hd15 hc15 hq
            cases q
            · go_wp2
              go_ret
              exact ⟨rfl, hc16⟩
            · go_wp2
              go_ret
              exact ⟨rfl, hc16⟩
  · go_enter Tryd.func6, Tryd.ntmps6
    go_wp2_with fail
    refine (works_any _ HM.out).mono ?_
    rintro e w1 ⟨rfl, hb1⟩
    go_wp2_with fail
    go_quiet (fail)
    go_wp2_with fail
    obtain ⟨w0, hw0⟩ : ∃ w0, w1.drewN nq = w0 := ⟨_, rfl⟩
    have hb2 : Below w.heap.size w w0 := by rw [← hw0]; exact below_drewN' hb1 nq
    rw [hw0]
    clear hw0 hb1
    obtain ⟨P, hP⟩ : ∃ P, xs.take n = P := ⟨_, rfl⟩
    obtain ⟨R, hR⟩ : ∃ R, ys.take 60 = R := ⟨_, rfl⟩
    have RX := Lib.hid (show Rd w0 A (cI P) by rw [← hP, cI_take]; exact ((HX.out).below hb2).take _)
    have RY := Lib.hid (show Rd w0 B (cI R) by rw [← hR, cI_take]; exact ((HY.out).below hb2).take _)
    have RXL := Lib.hid (show P.length = n by rw [← hP, List.length_take, Hn.out]; omega)
    have RYL := Lib.hid (show R.length = 60 by rw [← hR, List.length_take, Hm.out]; omega)
    clear hP hR HX HY
    go_loopw [5, 7] (fun v i wr => ∃ k : Nat, k ≤ n ∧ i = .int .i64 k ∧ Hid (wr.ownsRow w0.heap.size 3 1 v k (cI ((P.take k).map rep)) ∧ Below w0.heap.size w0 wr)) (fun _ i _ => n - (intOf i).toNat)
    case atStart => exact ⟨0, Nat.zero_le _, rfl, World.ownsRow_nil _ _ _ _, Below.refl _ _⟩
    case round =>
      obtain ⟨k, hk, rfl, hid⟩ := hrel
      by_cases hlt : k < n
      · obtain ⟨z, hzk⟩ : ∃ z, P[k]? = some z := ⟨P[k]'(by rw [RXL.out]; exact hlt), by simp⟩
        obtain ⟨ad, hAd, _, hcz⟩ := ((RX.out).below hid.out.2) k _ (cI_at P k z hzk)
        have HAd := Lib.hid hAd
        subst hAd
        have Hzk := Lib.hid hzk
        have Hrt := Lib.hid (rep_take P k z hzk)
        have Hlk := Lib.hid (rep_len P k (by rw [RXL.out]; omega)); clear hzk
        have hbz := hid.out.2.size
        have HO := Lib.hid ((hid.out.1).alloc (.cells #[.int .i64 z] 3))
        obtain ⟨q, hq⟩ : ∃ q, chk z = q := ⟨_, rfl⟩
        have Hq := Lib.hid hq; clear hq
        go_wp2_with (at_builtin; refine wpList_appB _ rfl _ _ 22 rfl w0.heap.size 3 i0 _ 8 Tryd.underlying22 hi0 hz0 hz1 hz2 rfl _ k _ rfl HO.out (some ⟨wr.heap.size, 0, none⟩) 1 1 (cI [z]) rfl (cI_len _) (Rd.one _ _ _) (cI_one _) (by omega) (by omega) (by simp; omega) ?_; intro v3 w3 hown3 hb3; obtain ⟨g, cp, hv3, hcp, hgb, hgl⟩ := own_some hown3 (by omega); subst hv3; have hb4 := (hid.out.2.alloc hbz _).trans hb3; have hcz3 : w3.cell? (ad.add k) = some (.int .i64 z) := cell_at (((RX.out).below hb4) k _ (cI_at P k z Hzk.out)); have HO3 := Lib.hid hown3; clear hown3 hb3)
        refine (check_any _ _).mono ?_
        rintro e w' ⟨rfl, rfl⟩
        rw [Hq.out]
        cases q
        · have hck := (HO3.out).cellAt k (by omega)
          have hfz := (HO3.out).frozenAt k
          have hck2 : ∃ u, w3.cell? ⟨g, k, none⟩ = some u := by
            rw [hck]
            exact ⟨_, List.getElem?_eq_getElem (by rw [(HO3.out).1]; omega)⟩
          obtain ⟨u, hu⟩ := hck2
          clear hck
          have HF := Lib.hid (show (w3.setCell ⟨g, k, none⟩ (.int .i64 65533)).ownsRow w0.heap.size 3 1 (.slice (some ⟨g, 0, none⟩) (k + 1) cp) (k + 1) (cI ((P.take (k + 1)).map rep)) ∧ Below w0.heap.size w0 (w3.setCell ⟨g, k, none⟩ (.int .i64 65533)) from
            ⟨by
              have := ((HO3.out).stored k (.int .i64 65533)).1
              rw [set_last _ z k Hlk.out] at this
              rw [Hrt.out, show rep z = 65533 by simp [rep, Hq.out]]
              exact this, hb4.setCell (p := ⟨g, k, none⟩) hgb _⟩)
          clear hb4 HO3
          go_wp2
          go_roundw
          case rel => exact ⟨k + 1, by omega, by go_num, HF⟩
          case measure => simp [intOf]; omega
        · have HF := Lib.hid (show w3.ownsRow w0.heap.size 3 1 (.slice (some ⟨g, 0, none⟩) (k + 1) cp) (k + 1) (cI ((P.take (k + 1)).map rep)) ∧ Below w0.heap.size w0 w3 from
            ⟨by rw [Hrt.out, show rep z = z by simp [rep, Hq.out], cI_append]; exact HO3.out, hb4⟩)
          clear hb4 HO3
          go_wp2
          go_roundw
          case rel => exact ⟨k + 1, by omega, by go_num, HF⟩
          case measure => simp [intOf]; omega
      · have hke : P.take k = P := List.take_of_length_le (by rw [RXL.out]; omega)
        rw [hke] at hid
        obtain rfl : n = k := by omega
        clear hke hlt hk
        obtain ⟨wa, hwa⟩ : ∃ wa, wa = wr := ⟨_, rfl⟩
        obtain rfl := hwa
        have hbX : Below w.heap.size w wa := hb2.trans (hid.out.2.mono hb2.size)
        have HOX := Lib.hid hid.out.1
        obtain ⟨A5, c5, hv5, _, hr5⟩ := own_slice hid.out.1
        subst hv5
        have RXr := Lib.hid hr5
        have RDX := Lib.hid (RX.out.below hid.out.2)
        have RDY := Lib.hid (RY.out.below hid.out.2)
        have RDYL := Lib.hid RYL.out
        clear hid hr5
        go_wp2_with fail
        go_loopw [6, 8] (fun v i wr => ∃ k : Nat, k ≤ 60 ∧ i = .int .i64 k ∧ Hid (wr.ownsRow wa.heap.size 3 1 v k (cI ((R.take k).map rep)) ∧ Below wa.heap.size wa wr)) (fun _ i _ => 60 - (intOf i).toNat)
        case atStart => exact ⟨0, Nat.zero_le _, rfl, World.ownsRow_nil _ _ _ _, Below.refl _ _⟩
        case round =>
          obtain ⟨k, hk, rfl, hid⟩ := hrel
          by_cases hlt : k < 60
          · obtain ⟨z, hzk⟩ : ∃ z, R[k]? = some z := ⟨R[k]'(by rw [RDYL.out]; exact hlt), by simp⟩
            obtain ⟨ad, hAd, _, hcz⟩ := ((RDY.out).below hid.out.2) k _ (cI_at R k z hzk)
            have HAd := Lib.hid hAd
            subst hAd
            have Hzk := Lib.hid hzk
            have Hrt := Lib.hid (rep_take R k z hzk)
            have Hlk := Lib.hid (rep_len R k (by rw [RDYL.out]; omega)); clear hzk
            have hbz := hid.out.2.size
            have HO := Lib.hid ((hid.out.1).alloc (.cells #[.int .i64 z] 3))
            obtain ⟨q, hq⟩ : ∃ q, chk z = q := ⟨_, rfl⟩
            have Hq := Lib.hid hq; clear hq
            go_wp2_with (at_builtin; refine wpList_appB _ rfl _ _ 22 rfl wa.heap.size 3 i0 _ 8 Tryd.underlying22 hi0 hz0 hz1 hz2 rfl _ k _ rfl HO.out (some ⟨wr.heap.size, 0, none⟩) 1 1 (cI [z]) rfl (cI_len _) (Rd.one _ _ _) (cI_one _) (by omega) (by omega) (by simp; omega) ?_; intro v3 w3 hown3 hb3; obtain ⟨g, cp, hv3, hcp, hgb, hgl⟩ := own_some hown3 (by omega); subst hv3; have hb4 := (hid.out.2.alloc hbz _).trans hb3; have hcz3 : w3.cell? (ad.add k) = some (.int .i64 z) := cell_at (((RDY.out).below hb4) k _ (cI_at R k z Hzk.out)); have HO3 := Lib.hid hown3; clear hown3 hb3)
            refine (check_any _ _).mono ?_
            rintro e w' ⟨rfl, rfl⟩
            rw [Hq.out]
            cases q
            · have hck := (HO3.out).cellAt k (by omega)
              have hfz := (HO3.out).frozenAt k
              have hck2 : ∃ u, w3.cell? ⟨g, k, none⟩ = some u := by
                rw [hck]
                exact ⟨_, List.getElem?_eq_getElem (by rw [(HO3.out).1]; omega)⟩
              obtain ⟨u, hu⟩ := hck2
              clear hck
              have HF := Lib.hid (show (w3.setCell ⟨g, k, none⟩ (.int .i64 65533)).ownsRow wa.heap.size 3 1 (.slice (some ⟨g, 0, none⟩) (k + 1) cp) (k + 1) (cI ((R.take (k + 1)).map rep)) ∧ Below wa.heap.size wa (w3.setCell ⟨g, k, none⟩ (.int .i64 65533)) from
                ⟨by
                  have := ((HO3.out).stored k (.int .i64 65533)).1
                  rw [set_last _ z k Hlk.out] at this
                  rw [Hrt.out, show rep z = 65533 by simp [rep, Hq.out]]
                  exact this, hb4.setCell (p := ⟨g, k, none⟩) hgb _⟩)
              clear hb4 HO3
              go_wp2
              go_roundw
              case rel => exact ⟨k + 1, by omega, by go_num, HF⟩
              case measure => simp [intOf]; omega
            · have HF := Lib.hid (show w3.ownsRow wa.heap.size 3 1 (.slice (some ⟨g, 0, none⟩) (k + 1) cp) (k + 1) (cI ((R.take (k + 1)).map rep)) ∧ Below wa.heap.size wa w3 from
                ⟨by rw [Hrt.out, show rep z = z by simp [rep, Hq.out], cI_append]; exact HO3.out, hb4⟩)
              clear hb4 HO3
              go_wp2
              go_roundw
              case rel => exact ⟨k + 1, by omega, by go_num, HF⟩
              case measure => simp [intOf]; omega
          · have hke : R.take k = R := List.take_of_length_le (by rw [RDYL.out]; omega)
            rw [hke] at hid
            obtain rfl : 60 = k := by omega
            clear hke hlt hk
            have HO5 := Lib.hid (own_below HOX.out hid.out.2)
            have hb7 := hbX.trans (hid.out.2.mono hbX.size)
            obtain ⟨A6, c6, hv6, _, hr6⟩ := own_slice hid.out.1
            subst hv6
            have HRy := Lib.hid hr6
            have HRx := Lib.hid (RXr.out.below hid.out.2)
            have HRa := Lib.hid (RDX.out.below hid.out.2)
            have HRb := Lib.hid (RDY.out.below hid.out.2)
            clear hid hr6 HO5
            have hlP : (textL P).length ≤ 240 := by have := textL_len P; rw [RXL.out] at this; omega
            have hlR : (textL R).length ≤ 240 := by have := textL_len R; rw [RYL.out] at this; omega
            obtain ⟨q, hq⟩ : ∃ q, (textL P == textL R) = q := ⟨_, rfl⟩
            have Hq := Lib.hid (show eqI (P.map rep) (R.map rep) = q by rw [← hq, back_eq])
            have Hq2 := Lib.hid hq; clear hq
            have HcP := Lib.hid (show eqI (codesL (⟨(textL P).toArray⟩ : ByteArray).data.toList) (P.map rep) = true by rw [show (⟨(textL P).toArray⟩ : ByteArray).data.toList = textL P by simp, codes_text, eqI_self])
            have HcR := Lib.hid (show eqI (codesL (⟨(textL R).toArray⟩ : ByteArray).data.toList) (R.map rep) = true by rw [show (⟨(textL R).toArray⟩ : ByteArray).data.toList = textL R by simp, codes_text, eqI_self])
            go_wp2_with fail
            refine (text_yes A c _ P RXL.out _ HRa.out ((HM.out).keep hb7) (by rw [RXL.out]; omega)).mono ?_
            rintro e w10 ⟨rfl, hb10⟩
            have hc10 := hb7.trans (hb10.mono hb7.size)
            go_wp2_with fail
            refine (is_yes _ A5 c5 _ (P.map rep) (by rw [List.length_map, RXL.out]) _ ((HRx.out).below hb10) ((HM.out).keep hc10) (by show (textL P).length ≤ _; omega) HcP.out).mono ?_
            rintro e w11 ⟨rfl, hb11⟩
            have hd11 := hb10.trans (hb11.mono hb10.size)
            have hc11 := hc10.trans (hb11.mono hc10.size)
            clear hb10 hb11 hc10
            go_wp2_with fail
            refine (text_yes B d _ R RYL.out _ ((HRb.out).below hd11) ((HM.out).keep hc11) (by rw [RYL.out]; omega)).mono ?_
            rintro e w12 ⟨rfl, hb12⟩
            have hd12 := hd11.trans (hb12.mono hd11.size)
            have hc12 := hc11.trans (hb12.mono hc11.size)
            clear hb12 hd11 hc11
            go_wp2_with fail
            refine (is_yes _ A6 c6 _ (R.map rep) (by rw [List.length_map, RYL.out]) _ ((HRy.out).below hd12) ((HM.out).keep hc12) (by show (textL R).length ≤ _; omega) HcR.out).mono ?_
            rintro e w13 ⟨rfl, hb13⟩
            have hd13 := hd12.trans (hb13.mono hd12.size)
            have hc13 := hc12.trans (hb13.mono hc12.size)
            clear hb13 hd12 hc12
            go_wp2_with fail
            refine (text_yes A c _ P RXL.out _ ((HRa.out).below hd13) ((HM.out).keep hc13) (by rw [RXL.out]; omega)).mono ?_
            rintro e w14 ⟨rfl, hb14⟩
            have hd14 := hd13.trans (hb14.mono hd13.size)
            have hc14 := hc13.trans (hb14.mono hc13.size)
            clear hb14 hd13 hc13
            go_wp2_with fail
            refine (text_yes B d _ R RYL.out _ ((HRb.out).below hd14) ((HM.out).keep hc14) (by rw [RYL.out]; omega)).mono ?_
            rintro e w15 ⟨rfl, hb15⟩
            have hd15 := hd14.trans (hb15.mono hd14.size)
            have hc15 := hc14.trans (hb15.mono hc14.size)
            clear hb15 hd14 hc14
            have hq := Hq2.out
            go_wp2_with fail
            refine (ints_at A5 A6 c5 c6 _ _ (P.map rep) (R.map rep) (by rw [List.length_map, RXL.out]) (by rw [List.length_map, RYL.out]) _ ((HRx.out).below hd15) ((HRy.out).below hd15) (by rw [List.length_map, RXL.out]; omega)).mono ?_
            rintro e w16 ⟨rfl, hb16⟩
            rw [Hq.out]
            have hc16 := hc15.trans (hb16.mono hc15.size)
            clear hb16 hd15 hc15 hq
            cases q
            · go_wp2
              go_ret
              exact ⟨rfl, hc16⟩
            · go_wp2
              go_ret
              exact ⟨rfl, hc16⟩
  · go_enter Tryd.func6, Tryd.ntmps6
    go_wp2_with fail
    refine (works_any _ HM.out).mono ?_
    rintro e w1 ⟨rfl, hb1⟩
    go_wp2_with fail
    go_quiet (fail)
    go_wp2_with fail
    obtain ⟨w0, hw0⟩ : ∃ w0, w1.drewN nq = w0 := ⟨_, rfl⟩
    have hb2 : Below w.heap.size w w0 := by rw [← hw0]; exact below_drewN' hb1 nq
    rw [hw0]
    clear hw0 hb1
    obtain ⟨P, hP⟩ : ∃ P, xs.take 60 = P := ⟨_, rfl⟩
    obtain ⟨R, hR⟩ : ∃ R, ys.take m = R := ⟨_, rfl⟩
    have RX := Lib.hid (show Rd w0 A (cI P) by rw [← hP, cI_take]; exact ((HX.out).below hb2).take _)
    have RY := Lib.hid (show Rd w0 B (cI R) by rw [← hR, cI_take]; exact ((HY.out).below hb2).take _)
    have RXL := Lib.hid (show P.length = 60 by rw [← hP, List.length_take, Hn.out]; omega)
    have RYL := Lib.hid (show R.length = m by rw [← hR, List.length_take, Hm.out]; omega)
    clear hP hR HX HY
    go_loopw [5, 7] (fun v i wr => ∃ k : Nat, k ≤ 60 ∧ i = .int .i64 k ∧ Hid (wr.ownsRow w0.heap.size 3 1 v k (cI ((P.take k).map rep)) ∧ Below w0.heap.size w0 wr)) (fun _ i _ => 60 - (intOf i).toNat)
    case atStart => exact ⟨0, Nat.zero_le _, rfl, World.ownsRow_nil _ _ _ _, Below.refl _ _⟩
    case round =>
      obtain ⟨k, hk, rfl, hid⟩ := hrel
      by_cases hlt : k < 60
      · obtain ⟨z, hzk⟩ : ∃ z, P[k]? = some z := ⟨P[k]'(by rw [RXL.out]; exact hlt), by simp⟩
        obtain ⟨ad, hAd, _, hcz⟩ := ((RX.out).below hid.out.2) k _ (cI_at P k z hzk)
        have HAd := Lib.hid hAd
        subst hAd
        have Hzk := Lib.hid hzk
        have Hrt := Lib.hid (rep_take P k z hzk)
        have Hlk := Lib.hid (rep_len P k (by rw [RXL.out]; omega)); clear hzk
        have hbz := hid.out.2.size
        have HO := Lib.hid ((hid.out.1).alloc (.cells #[.int .i64 z] 3))
        obtain ⟨q, hq⟩ : ∃ q, chk z = q := ⟨_, rfl⟩
        have Hq := Lib.hid hq; clear hq
        go_wp2_with (at_builtin; refine wpList_appB _ rfl _ _ 22 rfl w0.heap.size 3 i0 _ 8 Tryd.underlying22 hi0 hz0 hz1 hz2 rfl _ k _ rfl HO.out (some ⟨wr.heap.size, 0, none⟩) 1 1 (cI [z]) rfl (cI_len _) (Rd.one _ _ _) (cI_one _) (by omega) (by omega) (by simp; omega) ?_; intro v3 w3 hown3 hb3; obtain ⟨g, cp, hv3, hcp, hgb, hgl⟩ := own_some hown3 (by omega); subst hv3; have hb4 := (hid.out.2.alloc hbz _).trans hb3; have hcz3 : w3.cell? (ad.add k) = some (.int .i64 z) := cell_at (((RX.out).below hb4) k _ (cI_at P k z Hzk.out)); have HO3 := Lib.hid hown3; clear hown3 hb3)
        refine (check_any _ _).mono ?_
        rintro e w' ⟨rfl, rfl⟩
        rw [Hq.out]
        cases q
        · have hck := (HO3.out).cellAt k (by omega)
          have hfz := (HO3.out).frozenAt k
          have hck2 : ∃ u, w3.cell? ⟨g, k, none⟩ = some u := by
            rw [hck]
            exact ⟨_, List.getElem?_eq_getElem (by rw [(HO3.out).1]; omega)⟩
          obtain ⟨u, hu⟩ := hck2
          clear hck
          have HF := Lib.hid (show (w3.setCell ⟨g, k, none⟩ (.int .i64 65533)).ownsRow w0.heap.size 3 1 (.slice (some ⟨g, 0, none⟩) (k + 1) cp) (k + 1) (cI ((P.take (k + 1)).map rep)) ∧ Below w0.heap.size w0 (w3.setCell ⟨g, k, none⟩ (.int .i64 65533)) from
            ⟨by
              have := ((HO3.out).stored k (.int .i64 65533)).1
              rw [set_last _ z k Hlk.out] at this
              rw [Hrt.out, show rep z = 65533 by simp [rep, Hq.out]]
              exact this, hb4.setCell (p := ⟨g, k, none⟩) hgb _⟩)
          clear hb4 HO3
          go_wp2
          go_roundw
          case rel => exact ⟨k + 1, by omega, by go_num, HF⟩
          case measure => simp [intOf]; omega
        · have HF := Lib.hid (show w3.ownsRow w0.heap.size 3 1 (.slice (some ⟨g, 0, none⟩) (k + 1) cp) (k + 1) (cI ((P.take (k + 1)).map rep)) ∧ Below w0.heap.size w0 w3 from
            ⟨by rw [Hrt.out, show rep z = z by simp [rep, Hq.out], cI_append]; exact HO3.out, hb4⟩)
          clear hb4 HO3
          go_wp2
          go_roundw
          case rel => exact ⟨k + 1, by omega, by go_num, HF⟩
          case measure => simp [intOf]; omega
      · have hke : P.take k = P := List.take_of_length_le (by rw [RXL.out]; omega)
        rw [hke] at hid
        obtain rfl : 60 = k := by omega
        clear hke hlt hk
        obtain ⟨wa, hwa⟩ : ∃ wa, wa = wr := ⟨_, rfl⟩
        obtain rfl := hwa
        have hbX : Below w.heap.size w wa := hb2.trans (hid.out.2.mono hb2.size)
        have HOX := Lib.hid hid.out.1
        obtain ⟨A5, c5, hv5, _, hr5⟩ := own_slice hid.out.1
        subst hv5
        have RXr := Lib.hid hr5
        have RDX := Lib.hid (RX.out.below hid.out.2)
        have RDY := Lib.hid (RY.out.below hid.out.2)
        have RDYL := Lib.hid RYL.out
        clear hid hr5
        rw [show ((60 : Nat) : Int) = (60 : Int) from rfl]
        go_wp2_with fail
        go_loopw [6, 8] (fun v i wr => ∃ k : Nat, k ≤ m ∧ i = .int .i64 k ∧ Hid (wr.ownsRow wa.heap.size 3 1 v k (cI ((R.take k).map rep)) ∧ Below wa.heap.size wa wr)) (fun _ i _ => m - (intOf i).toNat)
        case atStart => exact ⟨0, Nat.zero_le _, rfl, World.ownsRow_nil _ _ _ _, Below.refl _ _⟩
        case round =>
          obtain ⟨k, hk, rfl, hid⟩ := hrel
          by_cases hlt : k < m
          · obtain ⟨z, hzk⟩ : ∃ z, R[k]? = some z := ⟨R[k]'(by rw [RDYL.out]; exact hlt), by simp⟩
            obtain ⟨ad, hAd, _, hcz⟩ := ((RDY.out).below hid.out.2) k _ (cI_at R k z hzk)
            have HAd := Lib.hid hAd
            subst hAd
            have Hzk := Lib.hid hzk
            have Hrt := Lib.hid (rep_take R k z hzk)
            have Hlk := Lib.hid (rep_len R k (by rw [RDYL.out]; omega)); clear hzk
            have hbz := hid.out.2.size
            have HO := Lib.hid ((hid.out.1).alloc (.cells #[.int .i64 z] 3))
            obtain ⟨q, hq⟩ : ∃ q, chk z = q := ⟨_, rfl⟩
            have Hq := Lib.hid hq; clear hq
            go_wp2_with (at_builtin; refine wpList_appB _ rfl _ _ 22 rfl wa.heap.size 3 i0 _ 8 Tryd.underlying22 hi0 hz0 hz1 hz2 rfl _ k _ rfl HO.out (some ⟨wr.heap.size, 0, none⟩) 1 1 (cI [z]) rfl (cI_len _) (Rd.one _ _ _) (cI_one _) (by omega) (by omega) (by simp; omega) ?_; intro v3 w3 hown3 hb3; obtain ⟨g, cp, hv3, hcp, hgb, hgl⟩ := own_some hown3 (by omega); subst hv3; have hb4 := (hid.out.2.alloc hbz _).trans hb3; have hcz3 : w3.cell? (ad.add k) = some (.int .i64 z) := cell_at (((RDY.out).below hb4) k _ (cI_at R k z Hzk.out)); have HO3 := Lib.hid hown3; clear hown3 hb3)
            refine (check_any _ _).mono ?_
            rintro e w' ⟨rfl, rfl⟩
            rw [Hq.out]
            cases q
            · have hck := (HO3.out).cellAt k (by omega)
              have hfz := (HO3.out).frozenAt k
              have hck2 : ∃ u, w3.cell? ⟨g, k, none⟩ = some u := by
                rw [hck]
                exact ⟨_, List.getElem?_eq_getElem (by rw [(HO3.out).1]; omega)⟩
              obtain ⟨u, hu⟩ := hck2
              clear hck
              have HF := Lib.hid (show (w3.setCell ⟨g, k, none⟩ (.int .i64 65533)).ownsRow wa.heap.size 3 1 (.slice (some ⟨g, 0, none⟩) (k + 1) cp) (k + 1) (cI ((R.take (k + 1)).map rep)) ∧ Below wa.heap.size wa (w3.setCell ⟨g, k, none⟩ (.int .i64 65533)) from
                ⟨by
                  have := ((HO3.out).stored k (.int .i64 65533)).1
                  rw [set_last _ z k Hlk.out] at this
                  rw [Hrt.out, show rep z = 65533 by simp [rep, Hq.out]]
                  exact this, hb4.setCell (p := ⟨g, k, none⟩) hgb _⟩)
              clear hb4 HO3
              go_wp2
              go_roundw
              case rel => exact ⟨k + 1, by omega, by go_num, HF⟩
              case measure => simp [intOf]; omega
            · have HF := Lib.hid (show w3.ownsRow wa.heap.size 3 1 (.slice (some ⟨g, 0, none⟩) (k + 1) cp) (k + 1) (cI ((R.take (k + 1)).map rep)) ∧ Below wa.heap.size wa w3 from
                ⟨by rw [Hrt.out, show rep z = z by simp [rep, Hq.out], cI_append]; exact HO3.out, hb4⟩)
              clear hb4 HO3
              go_wp2
              go_roundw
              case rel => exact ⟨k + 1, by omega, by go_num, HF⟩
              case measure => simp [intOf]; omega
          · have hke : R.take k = R := List.take_of_length_le (by rw [RDYL.out]; omega)
            rw [hke] at hid
            obtain rfl : m = k := by omega
            clear hke hlt hk
            have HO5 := Lib.hid (own_below HOX.out hid.out.2)
            have hb7 := hbX.trans (hid.out.2.mono hbX.size)
            obtain ⟨A6, c6, hv6, _, hr6⟩ := own_slice hid.out.1
            subst hv6
            have HRy := Lib.hid hr6
            have HRx := Lib.hid (RXr.out.below hid.out.2)
            have HRa := Lib.hid (RDX.out.below hid.out.2)
            have HRb := Lib.hid (RDY.out.below hid.out.2)
            clear hid hr6 HO5
            have hlP : (textL P).length ≤ 240 := by have := textL_len P; rw [RXL.out] at this; omega
            have hlR : (textL R).length ≤ 240 := by have := textL_len R; rw [RYL.out] at this; omega
            obtain ⟨q, hq⟩ : ∃ q, (textL P == textL R) = q := ⟨_, rfl⟩
            have Hq := Lib.hid (show eqI (P.map rep) (R.map rep) = q by rw [← hq, back_eq])
            have Hq2 := Lib.hid hq; clear hq
            have HcP := Lib.hid (show eqI (codesL (⟨(textL P).toArray⟩ : ByteArray).data.toList) (P.map rep) = true by rw [show (⟨(textL P).toArray⟩ : ByteArray).data.toList = textL P by simp, codes_text, eqI_self])
            have HcR := Lib.hid (show eqI (codesL (⟨(textL R).toArray⟩ : ByteArray).data.toList) (R.map rep) = true by rw [show (⟨(textL R).toArray⟩ : ByteArray).data.toList = textL R by simp, codes_text, eqI_self])
            go_wp2_with fail
            refine (text_yes A c _ P RXL.out _ HRa.out ((HM.out).keep hb7) (by rw [RXL.out]; omega)).mono ?_
            rintro e w10 ⟨rfl, hb10⟩
            have hc10 := hb7.trans (hb10.mono hb7.size)
            go_wp2_with fail
            refine (is_yes _ A5 c5 _ (P.map rep) (by rw [List.length_map, RXL.out]) _ ((HRx.out).below hb10) ((HM.out).keep hc10) (by show (textL P).length ≤ _; omega) HcP.out).mono ?_
            rintro e w11 ⟨rfl, hb11⟩
            have hd11 := hb10.trans (hb11.mono hb10.size)
            have hc11 := hc10.trans (hb11.mono hc10.size)
            clear hb10 hb11 hc10
            go_wp2_with fail
            refine (text_yes B d _ R RYL.out _ ((HRb.out).below hd11) ((HM.out).keep hc11) (by rw [RYL.out]; omega)).mono ?_
            rintro e w12 ⟨rfl, hb12⟩
            have hd12 := hd11.trans (hb12.mono hd11.size)
            have hc12 := hc11.trans (hb12.mono hc11.size)
            clear hb12 hd11 hc11
            go_wp2_with fail
            refine (is_yes _ A6 c6 _ (R.map rep) (by rw [List.length_map, RYL.out]) _ ((HRy.out).below hd12) ((HM.out).keep hc12) (by show (textL R).length ≤ _; omega) HcR.out).mono ?_
            rintro e w13 ⟨rfl, hb13⟩
            have hd13 := hd12.trans (hb13.mono hd12.size)
            have hc13 := hc12.trans (hb13.mono hc12.size)
            clear hb13 hd12 hc12
            go_wp2_with fail
            refine (text_yes A c _ P RXL.out _ ((HRa.out).below hd13) ((HM.out).keep hc13) (by rw [RXL.out]; omega)).mono ?_
            rintro e w14 ⟨rfl, hb14⟩
            have hd14 := hd13.trans (hb14.mono hd13.size)
            have hc14 := hc13.trans (hb14.mono hc13.size)
            clear hb14 hd13 hc13
            go_wp2_with fail
            refine (text_yes B d _ R RYL.out _ ((HRb.out).below hd14) ((HM.out).keep hc14) (by rw [RYL.out]; omega)).mono ?_
            rintro e w15 ⟨rfl, hb15⟩
            have hd15 := hd14.trans (hb15.mono hd14.size)
            have hc15 := hc14.trans (hb15.mono hc14.size)
            clear hb15 hd14 hc14
            have hq := Hq2.out
            go_wp2_with fail
            refine (ints_at A5 A6 c5 c6 _ _ (P.map rep) (R.map rep) (by rw [List.length_map, RXL.out]) (by rw [List.length_map, RYL.out]) _ ((HRx.out).below hd15) ((HRy.out).below hd15) (by rw [List.length_map, RXL.out]; omega)).mono ?_
            rintro e w16 ⟨rfl, hb16⟩
            rw [Hq.out]
            have hc16 := hc15.trans (hb16.mono hc15.size)
            clear hb16 hd15 hc15 hq
            cases q
            · go_wp2
              go_ret
              exact ⟨rfl, hc16⟩
            · go_wp2
              go_ret
              exact ⟨rfl, hc16⟩
  · go_enter Tryd.func6, Tryd.ntmps6
    go_wp2_with fail
    refine (works_any _ HM.out).mono ?_
    rintro e w1 ⟨rfl, hb1⟩
    go_wp2_with fail
    go_quiet (fail)
    go_wp2_with fail
    obtain ⟨w0, hw0⟩ : ∃ w0, w1.drewN nq = w0 := ⟨_, rfl⟩
    have hb2 : Below w.heap.size w w0 := by rw [← hw0]; exact below_drewN' hb1 nq
    rw [hw0]
    clear hw0 hb1
    obtain ⟨P, hP⟩ : ∃ P, xs.take 60 = P := ⟨_, rfl⟩
    obtain ⟨R, hR⟩ : ∃ R, ys.take 60 = R := ⟨_, rfl⟩
    have RX := Lib.hid (show Rd w0 A (cI P) by rw [← hP, cI_take]; exact ((HX.out).below hb2).take _)
    have RY := Lib.hid (show Rd w0 B (cI R) by rw [← hR, cI_take]; exact ((HY.out).below hb2).take _)
    have RXL := Lib.hid (show P.length = 60 by rw [← hP, List.length_take, Hn.out]; omega)
    have RYL := Lib.hid (show R.length = 60 by rw [← hR, List.length_take, Hm.out]; omega)
    clear hP hR HX HY
    go_loopw [5, 7] (fun v i wr => ∃ k : Nat, k ≤ 60 ∧ i = .int .i64 k ∧ Hid (wr.ownsRow w0.heap.size 3 1 v k (cI ((P.take k).map rep)) ∧ Below w0.heap.size w0 wr)) (fun _ i _ => 60 - (intOf i).toNat)
    case atStart => exact ⟨0, Nat.zero_le _, rfl, World.ownsRow_nil _ _ _ _, Below.refl _ _⟩
    case round =>
      obtain ⟨k, hk, rfl, hid⟩ := hrel
      by_cases hlt : k < 60
      · obtain ⟨z, hzk⟩ : ∃ z, P[k]? = some z := ⟨P[k]'(by rw [RXL.out]; exact hlt), by simp⟩
        obtain ⟨ad, hAd, _, hcz⟩ := ((RX.out).below hid.out.2) k _ (cI_at P k z hzk)
        have HAd := Lib.hid hAd
        subst hAd
        have Hzk := Lib.hid hzk
        have Hrt := Lib.hid (rep_take P k z hzk)
        have Hlk := Lib.hid (rep_len P k (by rw [RXL.out]; omega)); clear hzk
        have hbz := hid.out.2.size
        have HO := Lib.hid ((hid.out.1).alloc (.cells #[.int .i64 z] 3))
        obtain ⟨q, hq⟩ : ∃ q, chk z = q := ⟨_, rfl⟩
        have Hq := Lib.hid hq; clear hq
        go_wp2_with (at_builtin; refine wpList_appB _ rfl _ _ 22 rfl w0.heap.size 3 i0 _ 8 Tryd.underlying22 hi0 hz0 hz1 hz2 rfl _ k _ rfl HO.out (some ⟨wr.heap.size, 0, none⟩) 1 1 (cI [z]) rfl (cI_len _) (Rd.one _ _ _) (cI_one _) (by omega) (by omega) (by simp; omega) ?_; intro v3 w3 hown3 hb3; obtain ⟨g, cp, hv3, hcp, hgb, hgl⟩ := own_some hown3 (by omega); subst hv3; have hb4 := (hid.out.2.alloc hbz _).trans hb3; have hcz3 : w3.cell? (ad.add k) = some (.int .i64 z) := cell_at (((RX.out).below hb4) k _ (cI_at P k z Hzk.out)); have HO3 := Lib.hid hown3; clear hown3 hb3)
        refine (check_any _ _).mono ?_
        rintro e w' ⟨rfl, rfl⟩
        rw [Hq.out]
        cases q
        · have hck := (HO3.out).cellAt k (by omega)
          have hfz := (HO3.out).frozenAt k
          have hck2 : ∃ u, w3.cell? ⟨g, k, none⟩ = some u := by
            rw [hck]
            exact ⟨_, List.getElem?_eq_getElem (by rw [(HO3.out).1]; omega)⟩
          obtain ⟨u, hu⟩ := hck2
          clear hck
          have HF := Lib.hid (show (w3.setCell ⟨g, k, none⟩ (.int .i64 65533)).ownsRow w0.heap.size 3 1 (.slice (some ⟨g, 0, none⟩) (k + 1) cp) (k + 1) (cI ((P.take (k + 1)).map rep)) ∧ Below w0.heap.size w0 (w3.setCell ⟨g, k, none⟩ (.int .i64 65533)) from
            ⟨by
              have := ((HO3.out).stored k (.int .i64 65533)).1
              rw [set_last _ z k Hlk.out] at this
              rw [Hrt.out, show rep z = 65533 by simp [rep, Hq.out]]
              exact this, hb4.setCell (p := ⟨g, k, none⟩) hgb _⟩)
          clear hb4 HO3
          go_wp2
          go_roundw
          case rel => exact ⟨k + 1, by omega, by go_num, HF⟩
          case measure => simp [intOf]; omega
        · have HF := Lib.hid (show w3.ownsRow w0.heap.size 3 1 (.slice (some ⟨g, 0, none⟩) (k + 1) cp) (k + 1) (cI ((P.take (k + 1)).map rep)) ∧ Below w0.heap.size w0 w3 from
            ⟨by rw [Hrt.out, show rep z = z by simp [rep, Hq.out], cI_append]; exact HO3.out, hb4⟩)
          clear hb4 HO3
          go_wp2
          go_roundw
          case rel => exact ⟨k + 1, by omega, by go_num, HF⟩
          case measure => simp [intOf]; omega
      · have hke : P.take k = P := List.take_of_length_le (by rw [RXL.out]; omega)
        rw [hke] at hid
        obtain rfl : 60 = k := by omega
        clear hke hlt hk
        obtain ⟨wa, hwa⟩ : ∃ wa, wa = wr := ⟨_, rfl⟩
        obtain rfl := hwa
        have hbX : Below w.heap.size w wa := hb2.trans (hid.out.2.mono hb2.size)
        have HOX := Lib.hid hid.out.1
        obtain ⟨A5, c5, hv5, _, hr5⟩ := own_slice hid.out.1
        subst hv5
        have RXr := Lib.hid hr5
        have RDX := Lib.hid (RX.out.below hid.out.2)
        have RDY := Lib.hid (RY.out.below hid.out.2)
        have RDYL := Lib.hid RYL.out
        clear hid hr5
        rw [show ((60 : Nat) : Int) = (60 : Int) from rfl]
        go_wp2_with fail
        go_loopw [6, 8] (fun v i wr => ∃ k : Nat, k ≤ 60 ∧ i = .int .i64 k ∧ Hid (wr.ownsRow wa.heap.size 3 1 v k (cI ((R.take k).map rep)) ∧ Below wa.heap.size wa wr)) (fun _ i _ => 60 - (intOf i).toNat)
        case atStart => exact ⟨0, Nat.zero_le _, rfl, World.ownsRow_nil _ _ _ _, Below.refl _ _⟩
        case round =>
          obtain ⟨k, hk, rfl, hid⟩ := hrel
          by_cases hlt : k < 60
          · obtain ⟨z, hzk⟩ : ∃ z, R[k]? = some z := ⟨R[k]'(by rw [RDYL.out]; exact hlt), by simp⟩
            obtain ⟨ad, hAd, _, hcz⟩ := ((RDY.out).below hid.out.2) k _ (cI_at R k z hzk)
            have HAd := Lib.hid hAd
            subst hAd
            have Hzk := Lib.hid hzk
            have Hrt := Lib.hid (rep_take R k z hzk)
            have Hlk := Lib.hid (rep_len R k (by rw [RDYL.out]; omega)); clear hzk
            have hbz := hid.out.2.size
            have HO := Lib.hid ((hid.out.1).alloc (.cells #[.int .i64 z] 3))
            obtain ⟨q, hq⟩ : ∃ q, chk z = q := ⟨_, rfl⟩
            have Hq := Lib.hid hq; clear hq
            go_wp2_with (at_builtin; refine wpList_appB _ rfl _ _ 22 rfl wa.heap.size 3 i0 _ 8 Tryd.underlying22 hi0 hz0 hz1 hz2 rfl _ k _ rfl HO.out (some ⟨wr.heap.size, 0, none⟩) 1 1 (cI [z]) rfl (cI_len _) (Rd.one _ _ _) (cI_one _) (by omega) (by omega) (by simp; omega) ?_; intro v3 w3 hown3 hb3; obtain ⟨g, cp, hv3, hcp, hgb, hgl⟩ := own_some hown3 (by omega); subst hv3; have hb4 := (hid.out.2.alloc hbz _).trans hb3; have hcz3 : w3.cell? (ad.add k) = some (.int .i64 z) := cell_at (((RDY.out).below hb4) k _ (cI_at R k z Hzk.out)); have HO3 := Lib.hid hown3; clear hown3 hb3)
            refine (check_any _ _).mono ?_
            rintro e w' ⟨rfl, rfl⟩
            rw [Hq.out]
            cases q
            · have hck := (HO3.out).cellAt k (by omega)
              have hfz := (HO3.out).frozenAt k
              have hck2 : ∃ u, w3.cell? ⟨g, k, none⟩ = some u := by
                rw [hck]
                exact ⟨_, List.getElem?_eq_getElem (by rw [(HO3.out).1]; omega)⟩
              obtain ⟨u, hu⟩ := hck2
              clear hck
              have HF := Lib.hid (show (w3.setCell ⟨g, k, none⟩ (.int .i64 65533)).ownsRow wa.heap.size 3 1 (.slice (some ⟨g, 0, none⟩) (k + 1) cp) (k + 1) (cI ((R.take (k + 1)).map rep)) ∧ Below wa.heap.size wa (w3.setCell ⟨g, k, none⟩ (.int .i64 65533)) from
                ⟨by
                  have := ((HO3.out).stored k (.int .i64 65533)).1
                  rw [set_last _ z k Hlk.out] at this
                  rw [Hrt.out, show rep z = 65533 by simp [rep, Hq.out]]
                  exact this, hb4.setCell (p := ⟨g, k, none⟩) hgb _⟩)
              clear hb4 HO3
              go_wp2
              go_roundw
              case rel => exact ⟨k + 1, by omega, by go_num, HF⟩
              case measure => simp [intOf]; omega
            · have HF := Lib.hid (show w3.ownsRow wa.heap.size 3 1 (.slice (some ⟨g, 0, none⟩) (k + 1) cp) (k + 1) (cI ((R.take (k + 1)).map rep)) ∧ Below wa.heap.size wa w3 from
                ⟨by rw [Hrt.out, show rep z = z by simp [rep, Hq.out], cI_append]; exact HO3.out, hb4⟩)
              clear hb4 HO3
              go_wp2
              go_roundw
              case rel => exact ⟨k + 1, by omega, by go_num, HF⟩
              case measure => simp [intOf]; omega
          · have hke : R.take k = R := List.take_of_length_le (by rw [RDYL.out]; omega)
            rw [hke] at hid
            obtain rfl : 60 = k := by omega
            clear hke hlt hk
            have HO5 := Lib.hid (own_below HOX.out hid.out.2)
            have hb7 := hbX.trans (hid.out.2.mono hbX.size)
            obtain ⟨A6, c6, hv6, _, hr6⟩ := own_slice hid.out.1
            subst hv6
            have HRy := Lib.hid hr6
            have HRx := Lib.hid (RXr.out.below hid.out.2)
            have HRa := Lib.hid (RDX.out.below hid.out.2)
            have HRb := Lib.hid (RDY.out.below hid.out.2)
            clear hid hr6 HO5
            have hlP : (textL P).length ≤ 240 := by have := textL_len P; rw [RXL.out] at this; omega
            have hlR : (textL R).length ≤ 240 := by have := textL_len R; rw [RYL.out] at this; omega
            obtain ⟨q, hq⟩ : ∃ q, (textL P == textL R) = q := ⟨_, rfl⟩
            have Hq := Lib.hid (show eqI (P.map rep) (R.map rep) = q by rw [← hq, back_eq])
            have Hq2 := Lib.hid hq; clear hq
            have HcP := Lib.hid (show eqI (codesL (⟨(textL P).toArray⟩ : ByteArray).data.toList) (P.map rep) = true by rw [show (⟨(textL P).toArray⟩ : ByteArray).data.toList = textL P by simp, codes_text, eqI_self])
            have HcR := Lib.hid (show eqI (codesL (⟨(textL R).toArray⟩ : ByteArray).data.toList) (R.map rep) = true by rw [show (⟨(textL R).toArray⟩ : ByteArray).data.toList = textL R by simp, codes_text, eqI_self])
            go_wp2_with fail
            refine (text_yes A c _ P RXL.out _ HRa.out ((HM.out).keep hb7) (by rw [RXL.out]; omega)).mono ?_
            rintro e w10 ⟨rfl, hb10⟩
            have hc10 := hb7.trans (hb10.mono hb7.size)
            go_wp2_with fail
            refine (is_yes _ A5 c5 _ (P.map rep) (by rw [List.length_map, RXL.out]) _ ((HRx.out).below hb10) ((HM.out).keep hc10) (by show (textL P).length ≤ _; omega) HcP.out).mono ?_
            rintro e w11 ⟨rfl, hb11⟩
            have hd11 := hb10.trans (hb11.mono hb10.size)
            have hc11 := hc10.trans (hb11.mono hc10.size)
            clear hb10 hb11 hc10
            go_wp2_with fail
            refine (text_yes B d _ R RYL.out _ ((HRb.out).below hd11) ((HM.out).keep hc11) (by rw [RYL.out]; omega)).mono ?_
            rintro e w12 ⟨rfl, hb12⟩
            have hd12 := hd11.trans (hb12.mono hd11.size)
            have hc12 := hc11.trans (hb12.mono hc11.size)
            clear hb12 hd11 hc11
            go_wp2_with fail
            refine (is_yes _ A6 c6 _ (R.map rep) (by rw [List.length_map, RYL.out]) _ ((HRy.out).below hd12) ((HM.out).keep hc12) (by show (textL R).length ≤ _; omega) HcR.out).mono ?_
            rintro e w13 ⟨rfl, hb13⟩
            have hd13 := hd12.trans (hb13.mono hd12.size)
            have hc13 := hc12.trans (hb13.mono hc12.size)
            clear hb13 hd12 hc12
            go_wp2_with fail
            refine (text_yes A c _ P RXL.out _ ((HRa.out).below hd13) ((HM.out).keep hc13) (by rw [RXL.out]; omega)).mono ?_
            rintro e w14 ⟨rfl, hb14⟩
            have hd14 := hd13.trans (hb14.mono hd13.size)
            have hc14 := hc13.trans (hb14.mono hc13.size)
            clear hb14 hd13 hc13
            go_wp2_with fail
            refine (text_yes B d _ R RYL.out _ ((HRb.out).below hd14) ((HM.out).keep hc14) (by rw [RYL.out]; omega)).mono ?_
            rintro e w15 ⟨rfl, hb15⟩
            have hd15 := hd14.trans (hb15.mono hd14.size)
            have hc15 := hc14.trans (hb15.mono hc14.size)
            clear hb15 hd14 hc14
            have hq := Hq2.out
            go_wp2_with fail
            refine (ints_at A5 A6 c5 c6 _ _ (P.map rep) (R.map rep) (by rw [List.length_map, RXL.out]) (by rw [List.length_map, RYL.out]) _ ((HRx.out).below hd15) ((HRy.out).below hd15) (by rw [List.length_map, RXL.out]; omega)).mono ?_
            rintro e w16 ⟨rfl, hb16⟩
            rw [Hq.out]
            have hc16 := hc15.trans (hb16.mono hc15.size)
            clear hb16 hd15 hc15 hq
            cases q
            · go_wp2
              go_ret
              exact ⟨rfl, hc16⟩
            · go_wp2
              go_ret
              exact ⟨rfl, hc16⟩
end Go.Proofs.YtciklknbllblmaaDoor.Utf
