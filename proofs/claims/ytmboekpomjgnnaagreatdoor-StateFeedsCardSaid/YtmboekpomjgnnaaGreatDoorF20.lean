/-
  StaAb2
-/
import Derived.Deep.RegionWith
import Derived.Test.YtmboekpomjgnnaaGreatDoorF17
namespace Go.Proofs.YtmboekpomjgnnaaGreatDoor.Sta
open Go.RowKit Utf Par
variable {X : Nat → Prop}

set_option maxRecDepth 100000 in
set_option maxHeartbeats 2000000 in
theorem take_rule10 (c : UInt8) (b : Nat) (g : Option Nat) (w : World) (p : PS) (l : List EV) (r : PS × List EV) (h : Dec X b g w p l) (hst : p.st = 10) (hu : p.utf = []) (h24 : c.toNat ≠ 24) (h26 : c.toNat ≠ 26) (h27 : c.toNat ≠ 27)
    (hpr : prnbB c = true) (hm : ∀ W, Dec X b g W p l → Frm b g g w W → Calls Tryz.prog 82 #[.pointer (some ⟨b, 0, none⟩), .int .u8 (c.toNat : Int)] W (Did X b g W r l)) :
    Calls Tryz.prog 32 #[.pointer (some ⟨b, 0, none⟩), .int .u8 (c.toNat : Int)] w (Did X b g w (post r) l) := by
  have HH := Lib.hid h
  have ix : ∀ W : World, (Instr.index 82 rulV (.int .i64 10)).run Tryz.prog W = .ok (.func (.func 82) #[] #[]) W := fun W => rfl
  have HI := Lib.hid (show Calls Tryz.prog 59 #[.pointer (some ⟨b, 0, none⟩)] w fun e w' => e = .returned (.bool false) ∧ w = w' from (inString_any b g w p l h).mono fun e w' ⟨h1, h2⟩ => ⟨by rw [h1, hst]; rfl, h2⟩)
  have HM := Lib.hid hm
  clear hm
  obtain ⟨u, q, v, xs, hx, hv, hl, hg, hu, hq, hxs, hX⟩ := h
  have c0 := hx.cell 0 _ rfl
  have c1 := hx.cell 1 _ rfl
  have HX := Lib.hid hx
  have HL := Lib.hid hl
  have HG := Lib.hid hg
  have HV := Lib.hid hv
  have HXS := Lib.hid hxs
  have HXX := Lib.hid hX
  have HU := Lib.hid hu
  have HQ := Lib.hid hq
  clear hl hg hx hv hxs hu hq hX
  rw [hst] at c0
  have hx1 := HX.out.drew
  rw [cD, hst] at hx1
  have d0 := hx1.cell 0 _ rfl
  clear hx1
  have HX' := Lib.hid (show ∀ W, Below w.drew.heap.size w.drew W → W.cell? ⟨b, 0, none⟩ = some (.int .i64 10) from fun W hW => (hW.cell (p := ⟨b, 0, none⟩) HX.out.1).trans d0)
  have HBS := Lib.hid (show b < w.drew.heap.size from HX.out.1)
  obtain ⟨A, cu, rfl⟩ := HU.out.1.form
  rw [hu] at c1 HU HX
  clear hst hu
  have k1 : ((c.toNat : Int) == 24) = false := by simp; omega
  have k2 : ((c.toNat : Int) == 26) = false := by simp; omega
  have k3 : ((c.toNat : Int) == 27) = false := by simp; omega
  clear h24 h26 h27
  obtain ⟨p', ev⟩ := r
  obtain ⟨t, ht⟩ : ∃ t, p'.bad = t := ⟨_, rfl⟩
  have HT := Lib.hid ht
  clear ht
  have HPN := Lib.hid hpr
  clear hpr
  cases t
  case false =>
    rw [show post (p', ev) = (p', ev) from post_ok HT.out]
    go_enter Tryz.func32, Tryz.ntmps32
    go_wp2_with (first
        | (go_at_call 59; refine HI.out.mono ?_; rintro e w1 ⟨rfl, rfl⟩)
        | (go_at_call 60; refine (isPrintable_any c _).mono ?_; rintro e w1 ⟨rfl, rfl⟩; rw [HPN.out]))
    rename_i K hK
    have HK := Lib.hid hK
    clear hK
    go_region_with
      (first
        | (go_at_call 61; refine (rules_any _).mono ?_; rintro e w3 ⟨rfl, hb3⟩; have x3 := HX'.out w3 hb3; have HB3 := Lib.hid hb3; clear hb3)
        | (go_at_call 82; refine (HM.out _ (HH.out.drew.below HB3.out) ((Frm.drew b g w).trans (Frm.of_below HB3.out (Nat.le_of_lt HBS.out)))).mono ?_; rintro e w4 ⟨rfl, g1, hd, hf⟩; have HD := Lib.hid hd; have HF := Lib.hid hf; clear hf; obtain ⟨u4, q4, v4, xs4, hx4, -⟩ := hd; have y7 := hx4.cell 7 _ rfl; rw [HT.out] at y7; clear hx4))
    all_goals
      refine HK.out _ _ ?_
      clear HK
      go_wp2
      go_end0
      exact ⟨rfl, g1, HD.out, ((Frm.drew b g w).trans (Frm.of_below HB3.out (Nat.le_of_lt HBS.out))).trans HF.out⟩
  case true =>
    rw [show post (p', ev) = (spoS p'.st, ev) from spo_post _ _ HT.out]
    go_enter Tryz.func32, Tryz.ntmps32
    go_wp2_with (first
        | (go_at_call 59; refine HI.out.mono ?_; rintro e w1 ⟨rfl, rfl⟩)
        | (go_at_call 60; refine (isPrintable_any c _).mono ?_; rintro e w1 ⟨rfl, rfl⟩; rw [HPN.out]))
    rename_i K hK
    have HK := Lib.hid hK
    clear hK
    go_region_with
      (first
        | (go_at_call 61; refine (rules_any _).mono ?_; rintro e w3 ⟨rfl, hb3⟩; have x3 := HX'.out w3 hb3; have HB3 := Lib.hid hb3; clear hb3)
        | (go_at_call 82; refine (HM.out _ (HH.out.drew.below HB3.out) ((Frm.drew b g w).trans (Frm.of_below HB3.out (Nat.le_of_lt HBS.out)))).mono ?_; rintro e w4 ⟨rfl, g1, hd, hf⟩; have HD := Lib.hid hd; have HF := Lib.hid hf; clear hf; obtain ⟨u4, q4, v4, xs4, hx4, -⟩ := hd; have y7 := hx4.cell 7 _ rfl; rw [HT.out] at y7; clear hx4))
    all_goals
      refine HK.out _ _ ?_
      clear HK
      have HS := Lib.hid (spoil_any b g1 w4 p' (l ++ ev) HD.out)
      go_wp2_with (go_at_call 63; refine HS.out.mono ?_; rintro e w5 ⟨rfl, g2, hd, hf⟩; have HD5 := Lib.hid hd; have HF5 := Lib.hid hf; clear hd hf)
      go_end0
      refine ⟨rfl, g2, ?_, (((Frm.drew b g w).trans (Frm.of_below HB3.out (Nat.le_of_lt HBS.out))).trans HF.out).trans HF5.out⟩
      have := HD5.out
      rwa [List.append_nil] at this
set_option maxRecDepth 100000 in
set_option maxHeartbeats 2000000 in
theorem take_rule11 (c : UInt8) (b : Nat) (g : Option Nat) (w : World) (p : PS) (l : List EV) (r : PS × List EV) (h : Dec X b g w p l) (hst : p.st = 11) (hu : p.utf = []) (h24 : c.toNat ≠ 24) (h26 : c.toNat ≠ 26) (h27 : c.toNat ≠ 27)
    (hm : ∀ W, Dec X b g W p l → Frm b g g w W → Calls Tryz.prog 85 #[.pointer (some ⟨b, 0, none⟩), .int .u8 (c.toNat : Int)] W (Did X b g W r l)) :
    Calls Tryz.prog 32 #[.pointer (some ⟨b, 0, none⟩), .int .u8 (c.toNat : Int)] w (Did X b g w (post r) l) := by
  have HH := Lib.hid h
  have ix : ∀ W : World, (Instr.index 82 rulV (.int .i64 11)).run Tryz.prog W = .ok (.func (.func 85) #[] #[]) W := fun W => rfl
  have HI := Lib.hid (show Calls Tryz.prog 59 #[.pointer (some ⟨b, 0, none⟩)] w fun e w' => e = .returned (.bool true) ∧ w = w' from (inString_any b g w p l h).mono fun e w' ⟨h1, h2⟩ => ⟨by rw [h1, hst]; rfl, h2⟩)
  have HM := Lib.hid hm
  clear hm
  obtain ⟨u, q, v, xs, hx, hv, hl, hg, hu, hq, hxs, hX⟩ := h
  have c0 := hx.cell 0 _ rfl
  have c1 := hx.cell 1 _ rfl
  have HX := Lib.hid hx
  have HL := Lib.hid hl
  have HG := Lib.hid hg
  have HV := Lib.hid hv
  have HXS := Lib.hid hxs
  have HXX := Lib.hid hX
  have HU := Lib.hid hu
  have HQ := Lib.hid hq
  clear hl hg hx hv hxs hu hq hX
  rw [hst] at c0
  have hx1 := HX.out.drew
  rw [cD, hst] at hx1
  have d0 := hx1.cell 0 _ rfl
  clear hx1
  have HX' := Lib.hid (show ∀ W, Below w.drew.heap.size w.drew W → W.cell? ⟨b, 0, none⟩ = some (.int .i64 11) from fun W hW => (hW.cell (p := ⟨b, 0, none⟩) HX.out.1).trans d0)
  have HBS := Lib.hid (show b < w.drew.heap.size from HX.out.1)
  obtain ⟨A, cu, rfl⟩ := HU.out.1.form
  rw [hu] at c1 HU HX
  clear hst hu
  have k1 : ((c.toNat : Int) == 24) = false := by simp; omega
  have k2 : ((c.toNat : Int) == 26) = false := by simp; omega
  have k3 : ((c.toNat : Int) == 27) = false := by simp; omega
  clear h24 h26 h27
  obtain ⟨p', ev⟩ := r
  obtain ⟨t, ht⟩ : ∃ t, p'.bad = t := ⟨_, rfl⟩
  have HT := Lib.hid ht
  clear ht
  cases t
  case false =>
    rw [show post (p', ev) = (p', ev) from post_ok HT.out]
    go_enter Tryz.func32, Tryz.ntmps32
    go_wp2_with (go_at_call 59; refine HI.out.mono ?_; rintro e w1 ⟨rfl, rfl⟩)
    rename_i K hK
    have HK := Lib.hid hK
    clear hK
    go_region_with
      (first
        | (go_at_call 61; refine (rules_any _).mono ?_; rintro e w3 ⟨rfl, hb3⟩; have x3 := HX'.out w3 hb3; have HB3 := Lib.hid hb3; clear hb3)
        | (go_at_call 85; refine (HM.out _ (HH.out.drew.below HB3.out) ((Frm.drew b g w).trans (Frm.of_below HB3.out (Nat.le_of_lt HBS.out)))).mono ?_; rintro e w4 ⟨rfl, g1, hd, hf⟩; have HD := Lib.hid hd; have HF := Lib.hid hf; clear hf; obtain ⟨u4, q4, v4, xs4, hx4, -⟩ := hd; have y7 := hx4.cell 7 _ rfl; rw [HT.out] at y7; clear hx4))
    all_goals
      refine HK.out _ _ ?_
      clear HK
      go_wp2
      go_end0
      exact ⟨rfl, g1, HD.out, ((Frm.drew b g w).trans (Frm.of_below HB3.out (Nat.le_of_lt HBS.out))).trans HF.out⟩
  case true =>
    rw [show post (p', ev) = (spoS p'.st, ev) from spo_post _ _ HT.out]
    go_enter Tryz.func32, Tryz.ntmps32
    go_wp2_with (go_at_call 59; refine HI.out.mono ?_; rintro e w1 ⟨rfl, rfl⟩)
    rename_i K hK
    have HK := Lib.hid hK
    clear hK
    go_region_with
      (first
        | (go_at_call 61; refine (rules_any _).mono ?_; rintro e w3 ⟨rfl, hb3⟩; have x3 := HX'.out w3 hb3; have HB3 := Lib.hid hb3; clear hb3)
        | (go_at_call 85; refine (HM.out _ (HH.out.drew.below HB3.out) ((Frm.drew b g w).trans (Frm.of_below HB3.out (Nat.le_of_lt HBS.out)))).mono ?_; rintro e w4 ⟨rfl, g1, hd, hf⟩; have HD := Lib.hid hd; have HF := Lib.hid hf; clear hf; obtain ⟨u4, q4, v4, xs4, hx4, -⟩ := hd; have y7 := hx4.cell 7 _ rfl; rw [HT.out] at y7; clear hx4))
    all_goals
      refine HK.out _ _ ?_
      clear HK
      have HS := Lib.hid (spoil_any b g1 w4 p' (l ++ ev) HD.out)
      go_wp2_with (go_at_call 63; refine HS.out.mono ?_; rintro e w5 ⟨rfl, g2, hd, hf⟩; have HD5 := Lib.hid hd; have HF5 := Lib.hid hf; clear hd hf)
      go_end0
      refine ⟨rfl, g2, ?_, (((Frm.drew b g w).trans (Frm.of_below HB3.out (Nat.le_of_lt HBS.out))).trans HF.out).trans HF5.out⟩
      have := HD5.out
      rwa [List.append_nil] at this
set_option maxRecDepth 100000 in
set_option maxHeartbeats 2000000 in
theorem take_rule12 (c : UInt8) (b : Nat) (g : Option Nat) (w : World) (p : PS) (l : List EV) (r : PS × List EV) (h : Dec X b g w p l) (hst : p.st = 12) (hu : p.utf = []) (h24 : c.toNat ≠ 24) (h26 : c.toNat ≠ 26) (h27 : c.toNat ≠ 27)
    (hm : ∀ W, Dec X b g W p l → Frm b g g w W → Calls Tryz.prog 84 #[.pointer (some ⟨b, 0, none⟩), .int .u8 (c.toNat : Int)] W (Did X b g W r l)) :
    Calls Tryz.prog 32 #[.pointer (some ⟨b, 0, none⟩), .int .u8 (c.toNat : Int)] w (Did X b g w (post r) l) := by
  have HH := Lib.hid h
  have ix : ∀ W : World, (Instr.index 82 rulV (.int .i64 12)).run Tryz.prog W = .ok (.func (.func 84) #[] #[]) W := fun W => rfl
  have HI := Lib.hid (show Calls Tryz.prog 59 #[.pointer (some ⟨b, 0, none⟩)] w fun e w' => e = .returned (.bool true) ∧ w = w' from (inString_any b g w p l h).mono fun e w' ⟨h1, h2⟩ => ⟨by rw [h1, hst]; rfl, h2⟩)
  have HM := Lib.hid hm
  clear hm
  obtain ⟨u, q, v, xs, hx, hv, hl, hg, hu, hq, hxs, hX⟩ := h
  have c0 := hx.cell 0 _ rfl
  have c1 := hx.cell 1 _ rfl
  have HX := Lib.hid hx
  have HL := Lib.hid hl
  have HG := Lib.hid hg
  have HV := Lib.hid hv
  have HXS := Lib.hid hxs
  have HXX := Lib.hid hX
  have HU := Lib.hid hu
  have HQ := Lib.hid hq
  clear hl hg hx hv hxs hu hq hX
  rw [hst] at c0
  have hx1 := HX.out.drew
  rw [cD, hst] at hx1
  have d0 := hx1.cell 0 _ rfl
  clear hx1
  have HX' := Lib.hid (show ∀ W, Below w.drew.heap.size w.drew W → W.cell? ⟨b, 0, none⟩ = some (.int .i64 12) from fun W hW => (hW.cell (p := ⟨b, 0, none⟩) HX.out.1).trans d0)
  have HBS := Lib.hid (show b < w.drew.heap.size from HX.out.1)
  obtain ⟨A, cu, rfl⟩ := HU.out.1.form
  rw [hu] at c1 HU HX
  clear hst hu
  have k1 : ((c.toNat : Int) == 24) = false := by simp; omega
  have k2 : ((c.toNat : Int) == 26) = false := by simp; omega
  have k3 : ((c.toNat : Int) == 27) = false := by simp; omega
  clear h24 h26 h27
  obtain ⟨p', ev⟩ := r
  obtain ⟨t, ht⟩ : ∃ t, p'.bad = t := ⟨_, rfl⟩
  have HT := Lib.hid ht
  clear ht
  cases t
  case false =>
    rw [show post (p', ev) = (p', ev) from post_ok HT.out]
    go_enter Tryz.func32, Tryz.ntmps32
    go_wp2_with (go_at_call 59; refine HI.out.mono ?_; rintro e w1 ⟨rfl, rfl⟩)
    rename_i K hK
    have HK := Lib.hid hK
    clear hK
    go_region_with
      (first
        | (go_at_call 61; refine (rules_any _).mono ?_; rintro e w3 ⟨rfl, hb3⟩; have x3 := HX'.out w3 hb3; have HB3 := Lib.hid hb3; clear hb3)
        | (go_at_call 84; refine (HM.out _ (HH.out.drew.below HB3.out) ((Frm.drew b g w).trans (Frm.of_below HB3.out (Nat.le_of_lt HBS.out)))).mono ?_; rintro e w4 ⟨rfl, g1, hd, hf⟩; have HD := Lib.hid hd; have HF := Lib.hid hf; clear hf; obtain ⟨u4, q4, v4, xs4, hx4, -⟩ := hd; have y7 := hx4.cell 7 _ rfl; rw [HT.out] at y7; clear hx4))
    all_goals
      refine HK.out _ _ ?_
      clear HK
      go_wp2
      go_end0
      exact ⟨rfl, g1, HD.out, ((Frm.drew b g w).trans (Frm.of_below HB3.out (Nat.le_of_lt HBS.out))).trans HF.out⟩
  case true =>
    rw [show post (p', ev) = (spoS p'.st, ev) from spo_post _ _ HT.out]
    go_enter Tryz.func32, Tryz.ntmps32
    go_wp2_with (go_at_call 59; refine HI.out.mono ?_; rintro e w1 ⟨rfl, rfl⟩)
    rename_i K hK
    have HK := Lib.hid hK
    clear hK
    go_region_with
      (first
        | (go_at_call 61; refine (rules_any _).mono ?_; rintro e w3 ⟨rfl, hb3⟩; have x3 := HX'.out w3 hb3; have HB3 := Lib.hid hb3; clear hb3)
        | (go_at_call 84; refine (HM.out _ (HH.out.drew.below HB3.out) ((Frm.drew b g w).trans (Frm.of_below HB3.out (Nat.le_of_lt HBS.out)))).mono ?_; rintro e w4 ⟨rfl, g1, hd, hf⟩; have HD := Lib.hid hd; have HF := Lib.hid hf; clear hf; obtain ⟨u4, q4, v4, xs4, hx4, -⟩ := hd; have y7 := hx4.cell 7 _ rfl; rw [HT.out] at y7; clear hx4))
    all_goals
      refine HK.out _ _ ?_
      clear HK
      have HS := Lib.hid (spoil_any b g1 w4 p' (l ++ ev) HD.out)
      go_wp2_with (go_at_call 63; refine HS.out.mono ?_; rintro e w5 ⟨rfl, g2, hd, hf⟩; have HD5 := Lib.hid hd; have HF5 := Lib.hid hf; clear hd hf)
      go_end0
      refine ⟨rfl, g2, ?_, (((Frm.drew b g w).trans (Frm.of_below HB3.out (Nat.le_of_lt HBS.out))).trans HF.out).trans HF5.out⟩
      have := HD5.out
      rwa [List.append_nil] at this
set_option maxRecDepth 100000 in
set_option maxHeartbeats 2000000 in
theorem take_rule13 (c : UInt8) (b : Nat) (g : Option Nat) (w : World) (p : PS) (l : List EV) (r : PS × List EV) (h : Dec X b g w p l) (hst : p.st = 13) (hu : p.utf = []) (h24 : c.toNat ≠ 24) (h26 : c.toNat ≠ 26) (h27 : c.toNat ≠ 27)
    (hm : ∀ W, Dec X b g W p l → Frm b g g w W → Calls Tryz.prog 86 #[.pointer (some ⟨b, 0, none⟩), .int .u8 (c.toNat : Int)] W (Did X b g W r l)) :
    Calls Tryz.prog 32 #[.pointer (some ⟨b, 0, none⟩), .int .u8 (c.toNat : Int)] w (Did X b g w (post r) l) := by
  have HH := Lib.hid h
  have ix : ∀ W : World, (Instr.index 82 rulV (.int .i64 13)).run Tryz.prog W = .ok (.func (.func 86) #[] #[]) W := fun W => rfl
  have HI := Lib.hid (show Calls Tryz.prog 59 #[.pointer (some ⟨b, 0, none⟩)] w fun e w' => e = .returned (.bool true) ∧ w = w' from (inString_any b g w p l h).mono fun e w' ⟨h1, h2⟩ => ⟨by rw [h1, hst]; rfl, h2⟩)
  have HM := Lib.hid hm
  clear hm
  obtain ⟨u, q, v, xs, hx, hv, hl, hg, hu, hq, hxs, hX⟩ := h
  have c0 := hx.cell 0 _ rfl
  have c1 := hx.cell 1 _ rfl
  have HX := Lib.hid hx
  have HL := Lib.hid hl
  have HG := Lib.hid hg
  have HV := Lib.hid hv
  have HXS := Lib.hid hxs
  have HXX := Lib.hid hX
  have HU := Lib.hid hu
  have HQ := Lib.hid hq
  clear hl hg hx hv hxs hu hq hX
  rw [hst] at c0
  have hx1 := HX.out.drew
  rw [cD, hst] at hx1
  have d0 := hx1.cell 0 _ rfl
  clear hx1
  have HX' := Lib.hid (show ∀ W, Below w.drew.heap.size w.drew W → W.cell? ⟨b, 0, none⟩ = some (.int .i64 13) from fun W hW => (hW.cell (p := ⟨b, 0, none⟩) HX.out.1).trans d0)
  have HBS := Lib.hid (show b < w.drew.heap.size from HX.out.1)
  obtain ⟨A, cu, rfl⟩ := HU.out.1.form
  rw [hu] at c1 HU HX
  clear hst hu
  have k1 : ((c.toNat : Int) == 24) = false := by simp; omega
  have k2 : ((c.toNat : Int) == 26) = false := by simp; omega
  have k3 : ((c.toNat : Int) == 27) = false := by simp; omega
  clear h24 h26 h27
  obtain ⟨p', ev⟩ := r
  obtain ⟨t, ht⟩ : ∃ t, p'.bad = t := ⟨_, rfl⟩
  have HT := Lib.hid ht
  clear ht
  cases t
  case false =>
    rw [show post (p', ev) = (p', ev) from post_ok HT.out]
    go_enter Tryz.func32, Tryz.ntmps32
    go_wp2_with (go_at_call 59; refine HI.out.mono ?_; rintro e w1 ⟨rfl, rfl⟩)
    rename_i K hK
    have HK := Lib.hid hK
    clear hK
    go_region_with
      (first
        | (go_at_call 61; refine (rules_any _).mono ?_; rintro e w3 ⟨rfl, hb3⟩; have x3 := HX'.out w3 hb3; have HB3 := Lib.hid hb3; clear hb3)
        | (go_at_call 86; refine (HM.out _ (HH.out.drew.below HB3.out) ((Frm.drew b g w).trans (Frm.of_below HB3.out (Nat.le_of_lt HBS.out)))).mono ?_; rintro e w4 ⟨rfl, g1, hd, hf⟩; have HD := Lib.hid hd; have HF := Lib.hid hf; clear hf; obtain ⟨u4, q4, v4, xs4, hx4, -⟩ := hd; have y7 := hx4.cell 7 _ rfl; rw [HT.out] at y7; clear hx4))
    all_goals
      refine HK.out _ _ ?_
      clear HK
      go_wp2
      go_end0
      exact ⟨rfl, g1, HD.out, ((Frm.drew b g w).trans (Frm.of_below HB3.out (Nat.le_of_lt HBS.out))).trans HF.out⟩
  case true =>
    rw [show post (p', ev) = (spoS p'.st, ev) from spo_post _ _ HT.out]
    go_enter Tryz.func32, Tryz.ntmps32
    go_wp2_with (go_at_call 59; refine HI.out.mono ?_; rintro e w1 ⟨rfl, rfl⟩)
    rename_i K hK
    have HK := Lib.hid hK
    clear hK
    go_region_with
      (first
        | (go_at_call 61; refine (rules_any _).mono ?_; rintro e w3 ⟨rfl, hb3⟩; have x3 := HX'.out w3 hb3; have HB3 := Lib.hid hb3; clear hb3)
        | (go_at_call 86; refine (HM.out _ (HH.out.drew.below HB3.out) ((Frm.drew b g w).trans (Frm.of_below HB3.out (Nat.le_of_lt HBS.out)))).mono ?_; rintro e w4 ⟨rfl, g1, hd, hf⟩; have HD := Lib.hid hd; have HF := Lib.hid hf; clear hf; obtain ⟨u4, q4, v4, xs4, hx4, -⟩ := hd; have y7 := hx4.cell 7 _ rfl; rw [HT.out] at y7; clear hx4))
    all_goals
      refine HK.out _ _ ?_
      clear HK
      have HS := Lib.hid (spoil_any b g1 w4 p' (l ++ ev) HD.out)
      go_wp2_with (go_at_call 63; refine HS.out.mono ?_; rintro e w5 ⟨rfl, g2, hd, hf⟩; have HD5 := Lib.hid hd; have HF5 := Lib.hid hf; clear hd hf)
      go_end0
      refine ⟨rfl, g2, ?_, (((Frm.drew b g w).trans (Frm.of_below HB3.out (Nat.le_of_lt HBS.out))).trans HF.out).trans HF5.out⟩
      have := HD5.out
      rwa [List.append_nil] at this
set_option maxRecDepth 100000 in
set_option maxHeartbeats 2000000 in
theorem take_rule14 (c : UInt8) (b : Nat) (g : Option Nat) (w : World) (p : PS) (l : List EV) (r : PS × List EV) (h : Dec X b g w p l) (hst : p.st = 14) (hu : p.utf = []) (h24 : c.toNat ≠ 24) (h26 : c.toNat ≠ 26) (h27 : c.toNat ≠ 27)
    (hm : ∀ W, Dec X b g W p l → Frm b g g w W → Calls Tryz.prog 84 #[.pointer (some ⟨b, 0, none⟩), .int .u8 (c.toNat : Int)] W (Did X b g W r l)) :
    Calls Tryz.prog 32 #[.pointer (some ⟨b, 0, none⟩), .int .u8 (c.toNat : Int)] w (Did X b g w (post r) l) := by
  have HH := Lib.hid h
  have ix : ∀ W : World, (Instr.index 82 rulV (.int .i64 14)).run Tryz.prog W = .ok (.func (.func 84) #[] #[]) W := fun W => rfl
  have HI := Lib.hid (show Calls Tryz.prog 59 #[.pointer (some ⟨b, 0, none⟩)] w fun e w' => e = .returned (.bool true) ∧ w = w' from (inString_any b g w p l h).mono fun e w' ⟨h1, h2⟩ => ⟨by rw [h1, hst]; rfl, h2⟩)
  have HM := Lib.hid hm
  clear hm
  obtain ⟨u, q, v, xs, hx, hv, hl, hg, hu, hq, hxs, hX⟩ := h
  have c0 := hx.cell 0 _ rfl
  have c1 := hx.cell 1 _ rfl
  have HX := Lib.hid hx
  have HL := Lib.hid hl
  have HG := Lib.hid hg
  have HV := Lib.hid hv
  have HXS := Lib.hid hxs
  have HXX := Lib.hid hX
  have HU := Lib.hid hu
  have HQ := Lib.hid hq
  clear hl hg hx hv hxs hu hq hX
  rw [hst] at c0
  have hx1 := HX.out.drew
  rw [cD, hst] at hx1
  have d0 := hx1.cell 0 _ rfl
  clear hx1
  have HX' := Lib.hid (show ∀ W, Below w.drew.heap.size w.drew W → W.cell? ⟨b, 0, none⟩ = some (.int .i64 14) from fun W hW => (hW.cell (p := ⟨b, 0, none⟩) HX.out.1).trans d0)
  have HBS := Lib.hid (show b < w.drew.heap.size from HX.out.1)
  obtain ⟨A, cu, rfl⟩ := HU.out.1.form
  rw [hu] at c1 HU HX
  clear hst hu
  have k1 : ((c.toNat : Int) == 24) = false := by simp; omega
  have k2 : ((c.toNat : Int) == 26) = false := by simp; omega
  have k3 : ((c.toNat : Int) == 27) = false := by simp; omega
  clear h24 h26 h27
  obtain ⟨p', ev⟩ := r
  obtain ⟨t, ht⟩ : ∃ t, p'.bad = t := ⟨_, rfl⟩
  have HT := Lib.hid ht
  clear ht
  cases t
  case false =>
    rw [show post (p', ev) = (p', ev) from post_ok HT.out]
    go_enter Tryz.func32, Tryz.ntmps32
    go_wp2_with (go_at_call 59; refine HI.out.mono ?_; rintro e w1 ⟨rfl, rfl⟩)
    rename_i K hK
    have HK := Lib.hid hK
    clear hK
    go_region_with
      (first
        | (go_at_call 61; refine (rules_any _).mono ?_; rintro e w3 ⟨rfl, hb3⟩; have x3 := HX'.out w3 hb3; have HB3 := Lib.hid hb3; clear hb3)
        | (go_at_call 84; refine (HM.out _ (HH.out.drew.below HB3.out) ((Frm.drew b g w).trans (Frm.of_below HB3.out (Nat.le_of_lt HBS.out)))).mono ?_; rintro e w4 ⟨rfl, g1, hd, hf⟩; have HD := Lib.hid hd; have HF := Lib.hid hf; clear hf; obtain ⟨u4, q4, v4, xs4, hx4, -⟩ := hd; have y7 := hx4.cell 7 _ rfl; rw [HT.out] at y7; clear hx4))
    all_goals
      refine HK.out _ _ ?_
      clear HK
      go_wp2
      go_end0
      exact ⟨rfl, g1, HD.out, ((Frm.drew b g w).trans (Frm.of_below HB3.out (Nat.le_of_lt HBS.out))).trans HF.out⟩
  case true =>
    rw [show post (p', ev) = (spoS p'.st, ev) from spo_post _ _ HT.out]
    go_enter Tryz.func32, Tryz.ntmps32
    go_wp2_with (go_at_call 59; refine HI.out.mono ?_; rintro e w1 ⟨rfl, rfl⟩)
    rename_i K hK
    have HK := Lib.hid hK
    clear hK
    go_region_with
      (first
        | (go_at_call 61; refine (rules_any _).mono ?_; rintro e w3 ⟨rfl, hb3⟩; have x3 := HX'.out w3 hb3; have HB3 := Lib.hid hb3; clear hb3)
        | (go_at_call 84; refine (HM.out _ (HH.out.drew.below HB3.out) ((Frm.drew b g w).trans (Frm.of_below HB3.out (Nat.le_of_lt HBS.out)))).mono ?_; rintro e w4 ⟨rfl, g1, hd, hf⟩; have HD := Lib.hid hd; have HF := Lib.hid hf; clear hf; obtain ⟨u4, q4, v4, xs4, hx4, -⟩ := hd; have y7 := hx4.cell 7 _ rfl; rw [HT.out] at y7; clear hx4))
    all_goals
      refine HK.out _ _ ?_
      clear HK
      have HS := Lib.hid (spoil_any b g1 w4 p' (l ++ ev) HD.out)
      go_wp2_with (go_at_call 63; refine HS.out.mono ?_; rintro e w5 ⟨rfl, g2, hd, hf⟩; have HD5 := Lib.hid hd; have HF5 := Lib.hid hf; clear hd hf)
      go_end0
      refine ⟨rfl, g2, ?_, (((Frm.drew b g w).trans (Frm.of_below HB3.out (Nat.le_of_lt HBS.out))).trans HF.out).trans HF5.out⟩
      have := HD5.out
      rwa [List.append_nil] at this
end Go.Proofs.YtmboekpomjgnnaaGreatDoor.Sta
