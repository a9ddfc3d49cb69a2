/-
  StaAe
-/
import Derived.Test.YtmboekpomjgnnaaGreatDoorF13
import Derived.Test.YtmboekpomjgnnaaGreatDoorF17
import Derived.Test.YtmboekpomjgnnaaGreatDoorF18
import Derived.Test.YtmboekpomjgnnaaGreatDoorF19
import Derived.Test.YtmboekpomjgnnaaGreatDoorF20
namespace Go.Proofs.YtmboekpomjgnnaaGreatDoor.Sta
open Go.RowKit Utf Par
variable {X : Nat → Prop}

set_option maxRecDepth 100000 in
set_option maxHeartbeats 2000000 in
theorem take_can (c : UInt8) (b : Nat) (g : Option Nat) (w : World) (p : PS) (l : List EV) (h : Dec X b g w p l) (hu : p.utf = []) (hc : c.toNat = 24 ∨ c.toNat = 26) :
    Calls Tryz.prog 32 #[.pointer (some ⟨b, 0, none⟩), .int .u8 (c.toNat : Int)] w (Did X b g w (begS 0, []) l) := by
  have HH := Lib.hid h
  obtain ⟨u, q, v, xs, hx, hv, hl, hg, hu, hq, hxs, hX⟩ := h
  have c0 := hx.cell 0 _ rfl
  have c1 := hx.cell 1 _ rfl
  have c7 := hx.cell 7 _ rfl
  have HX := Lib.hid hx
  have HL := Lib.hid hl
  have HG := Lib.hid hg
  have HV := Lib.hid hv
  have HXS := Lib.hid hxs
  have HXX := Lib.hid hX
  have HU := Lib.hid hu
  have HQ := Lib.hid hq
  clear hl hg hx hv hxs hu hq hX
  obtain ⟨A, cu, rfl⟩ := HU.out.1.form
  rw [hu] at c1 HU HX
  clear hu
  rcases hc with hc | hc
  all_goals
    rw [hc]
    clear hc
    go_enter Tryz.func32, Tryz.ntmps32
    go_wp2_with (go_at_call 57; refine (enter_any b g w p l 0 HH.out).mono ?_; rintro e w4 ⟨rfl, g1, hd, hf⟩; have HD := Lib.hid hd; have HF := Lib.hid hf; clear hf; obtain ⟨u4, q4, v4, xs4, hx4, -⟩ := hd; have y7 := hx4.cell 7 _ rfl; clear hx4)
    go_end0
    exact ⟨rfl, g1, HD.out, HF.out⟩
set_option maxRecDepth 100000 in
set_option maxHeartbeats 2000000 in
theorem take_esc (c : UInt8) (b : Nat) (g : Option Nat) (w : World) (p : PS) (l : List EV) (h : Dec X b g w p l) (hu : p.utf = []) (h0 : 0 ≤ p.st) (h1 : p.st ≤ 100) (hc : c.toNat = 27) :
    Calls Tryz.prog 32 #[.pointer (some ⟨b, 0, none⟩), .int .u8 (c.toNat : Int)] w (Did X b g w (post (if p.st = 6 ∨ p.st = 11 ∨ p.st = 13 then ({ p with st := p.st + 1 }, []) else (begS 1, []))) l) := by
  have HE := Lib.hid (escape6_any b g w p l h h0 h1)
  clear h0 h1
  have HH := Lib.hid h
  obtain ⟨u, q, v, xs, hx, hv, hl, hg, hu, hq, hxs, hX⟩ := h
  have c0 := hx.cell 0 _ rfl
  have c1 := hx.cell 1 _ rfl
  have c7 := hx.cell 7 _ rfl
  have HX := Lib.hid hx
  have HL := Lib.hid hl
  have HG := Lib.hid hg
  have HV := Lib.hid hv
  have HXS := Lib.hid hxs
  have HXX := Lib.hid hX
  have HU := Lib.hid hu
  have HQ := Lib.hid hq
  clear hl hg hx hv hxs hu hq hX
  obtain ⟨A, cu, rfl⟩ := HU.out.1.form
  rw [hu] at c1 HU HX
  clear hu
  rw [hc]
  clear hc
  by_cases k : p.st = 6 ∨ p.st = 11 ∨ p.st = 13
  · rw [if_pos k] at HE ⊢
    clear k
    obtain ⟨p', hp'⟩ : ∃ p', ({ p with st := p.st + 1 } : PS) = p' := ⟨_, rfl⟩
    rw [hp'] at HE ⊢
    clear hp'
    obtain ⟨t, ht⟩ : ∃ t, p'.bad = t := ⟨_, rfl⟩
    have HT := Lib.hid ht
    clear ht
    cases t
    · rw [show post (p', []) = (p', []) from post_ok HT.out]
      go_enter Tryz.func32, Tryz.ntmps32
      go_wp2_with (go_at_call 58; refine HE.out.mono ?_; rintro e w4 ⟨rfl, g1, hd, hf⟩; have HD := Lib.hid hd; have HF := Lib.hid hf; clear hf; obtain ⟨u4, q4, v4, xs4, hx4, -⟩ := hd; have y7 := hx4.cell 7 _ rfl; clear hx4; rw [HT.out] at y7)
      go_end0
      exact ⟨rfl, g1, HD.out, HF.out⟩
    · rw [show post (p', []) = (spoS p'.st, []) from spo_post _ _ HT.out]
      go_enter Tryz.func32, Tryz.ntmps32
      go_wp2_with (first
        | (go_at_call 58; refine HE.out.mono ?_; rintro e w4 ⟨rfl, g1, hd, hf⟩; have HS := Lib.hid (spoil_any b g1 w4 p' (l ++ []) hd); have HD := Lib.hid hd; have HF := Lib.hid hf; clear hf; obtain ⟨u4, q4, v4, xs4, hx4, -⟩ := hd; have y7 := hx4.cell 7 _ rfl; clear hx4; rw [HT.out] at y7)
        | (go_at_call 63; refine HS.out.mono ?_; rintro e w5 ⟨rfl, g2, hd, hf⟩; have HD5 := Lib.hid hd; have HF5 := Lib.hid hf; clear hd hf))
      go_end0
      refine ⟨rfl, g2, ?_, HF.out.trans HF5.out⟩
      have := HD5.out
      rwa [List.append_nil] at this
  · rw [if_neg k] at HE ⊢
    clear k
    rw [show post (begS 1, []) = (begS 1, []) from rfl]
    go_enter Tryz.func32, Tryz.ntmps32
    go_wp2_with (go_at_call 58; refine HE.out.mono ?_; rintro e w4 ⟨rfl, g1, hd, hf⟩; have HD := Lib.hid hd; have HF := Lib.hid hf; clear hf; obtain ⟨u4, q4, v4, xs4, hx4, -⟩ := hd; have y7 := hx4.cell 7 _ rfl; clear hx4)
    go_end0
    exact ⟨rfl, g1, HD.out, HF.out⟩
set_option maxRecDepth 100000 in
set_option maxHeartbeats 2000000 in
theorem take_low (c : UInt8) (b : Nat) (g : Option Nat) (w : World) (p : PS) (l : List EV) (h : Dec X b g w p l) (hl0 : l.length ≤ 90000) (hu : p.utf = []) (h24 : c.toNat ≠ 24) (h26 : c.toNat ≠ 26) (h27 : c.toNat ≠ 27)
    (hs : strB p.st = false) (hpr : prnbB c = false) (h128 : c.toNat < 128) :
    Calls Tryz.prog 32 #[.pointer (some ⟨b, 0, none⟩), .int .u8 (c.toNat : Int)] w (Did X b g w (post (if c.toNat ≠ 127 ∧ p.st ≤ 5 then (p, [ctE c.toNat]) else (p, []))) l) := by
  have HI := Lib.hid (show Calls Tryz.prog 59 #[.pointer (some ⟨b, 0, none⟩)] w fun e w' => e = .returned (.bool false) ∧ w = w' from (inString_any b g w p l h).mono fun e w' ⟨h1, h2⟩ => ⟨by rw [h1, hs], h2⟩)
  have HR := Lib.hid (report_lit 2 c.toNat b g w p l h hl0)
  have HSP := Lib.hid (spoil_any b g w p l h)
  have HPN := Lib.hid hpr
  have hb := c.toNat_lt
  clear hpr hs hl0
  have HH := Lib.hid h
  obtain ⟨u, q, v, xs, hx, hv, hl, hg, hu, hq, hxs, hX⟩ := h
  have c0 := hx.cell 0 _ rfl
  have c1 := hx.cell 1 _ rfl
  have c7 := hx.cell 7 _ rfl
  have HX := Lib.hid hx
  have HL := Lib.hid hl
  have HG := Lib.hid hg
  have HV := Lib.hid hv
  have HXS := Lib.hid hxs
  have HXX := Lib.hid hX
  have HU := Lib.hid hu
  have HQ := Lib.hid hq
  clear hl hg hx hv hxs hu hq hX
  obtain ⟨A, cu, rfl⟩ := HU.out.1.form
  rw [hu] at c1 HU HX
  clear hu
  have k1 : ((c.toNat : Int) == 24) = false := by simp; omega
  have k2 : ((c.toNat : Int) == 26) = false := by simp; omega
  have k3 : ((c.toNat : Int) == 27) = false := by simp; omega
  have k4 : decide ((128 : Int) ≤ (c.toNat : Int)) = false := by simp; omega
  clear h24 h26 h27 h128
  obtain ⟨t, ht⟩ : ∃ t, p.bad = t := ⟨_, rfl⟩
  have HT := Lib.hid ht
  rw [ht] at c7
  clear ht
  obtain ⟨n, hn⟩ : ∃ n, n = p.st := ⟨_, rfl⟩
  rw [← hn] at c0 ⊢
  have HN := Lib.hid hn
  clear hn
  have fin : ∀ W G, Dec X b G W (post (p, [])).1 (l ++ []) → Frm b g G w W → Did X b g w (post (p, [])) l (.returned (.tuple #[])) W := fun W G h1 h2 => by
    refine ⟨rfl, G, ?_, h2⟩
    have e : (post (p, [])).2 = [] := by unfold post; split <;> rfl
    rw [e]; exact h1
  have FIN := Lib.hid fin
  clear fin
  by_cases k5 : c.toNat = 127
  · rw [if_neg (by rintro ⟨x, _⟩; exact x k5), k5] at *
    cases t
    · go_enter Tryz.func32, Tryz.ntmps32
      go_wp2_with (first
        | (go_at_call 59; refine HI.out.mono ?_; rintro e w1 ⟨rfl, rfl⟩)
        | (go_at_call 60; refine (show Calls Tryz.prog 60 #[.int .u8 127] w fun e w' => e = .returned (.bool false) ∧ w = w' from (isPrintable_any 127 w).mono fun e w' ⟨h1, h2⟩ => ⟨h1, h2⟩).mono ?_; rintro e w1 ⟨rfl, rfl⟩))
      go_end0
      refine FIN.out _ g ?_ (Frm.refl _)
      rw [post_ok HT.out, List.append_nil]
      exact HH.out
    · go_enter Tryz.func32, Tryz.ntmps32
      go_wp2_with (first
        | (go_at_call 59; refine HI.out.mono ?_; rintro e w1 ⟨rfl, rfl⟩)
        | (go_at_call 60; refine (show Calls Tryz.prog 60 #[.int .u8 127] w fun e w' => e = .returned (.bool false) ∧ w = w' from (isPrintable_any 127 w).mono fun e w' ⟨h1, h2⟩ => ⟨h1, h2⟩).mono ?_; rintro e w1 ⟨rfl, rfl⟩)
        | (go_at_call 63; refine HSP.out.mono ?_; rintro e w5 ⟨rfl, g2, hd, hf⟩; have HD5 := Lib.hid hd; have HF5 := Lib.hid hf; clear hd hf))
      go_end0
      refine FIN.out _ g2 ?_ HF5.out
      rw [spo_post _ _ HT.out]
      exact HD5.out
  · have k6 : ((c.toNat : Int) != 127) = true := by simp; omega
    by_cases k7 : n ≤ 5
    · rw [if_pos ⟨k5, k7⟩]
      have k8 : decide (n ≤ 5) = true := decide_eq_true k7
      clear k5 k7
      cases t
      · rw [show post (p, [ctE c.toNat]) = (p, [ctE c.toNat]) from post_ok HT.out]
        go_enter Tryz.func32, Tryz.ntmps32
        go_wp2_with (first
          | (go_at_call 59; refine HI.out.mono ?_; rintro e w1 ⟨rfl, rfl⟩)
          | (go_at_call 60; refine (isPrintable_any c _).mono ?_; rintro e w1 ⟨rfl, rfl⟩; rw [HPN.out])
          | (go_at_call 62; refine HR.out.mono ?_; rintro e w4 ⟨rfl, g1, hd, hf⟩; have HS := Lib.hid (spoil_any b g1 w4 p (l ++ [ctE c.toNat]) hd); have HD := Lib.hid hd; have HF := Lib.hid hf; clear hf; obtain ⟨u4, q4, v4, xs4, hx4, -⟩ := hd; have y7 := hx4.cell 7 _ rfl; clear hx4; rw [HT.out] at y7))
        go_end0
        exact ⟨rfl, g1, HD.out, HF.out⟩
      · rw [show post (p, [ctE c.toNat]) = (spoS p.st, [ctE c.toNat]) from spo_post _ _ HT.out]
        go_enter Tryz.func32, Tryz.ntmps32
        go_wp2_with (first
          | (go_at_call 59; refine HI.out.mono ?_; rintro e w1 ⟨rfl, rfl⟩)
          | (go_at_call 60; refine (isPrintable_any c _).mono ?_; rintro e w1 ⟨rfl, rfl⟩; rw [HPN.out])
          | (go_at_call 62; refine HR.out.mono ?_; rintro e w4 ⟨rfl, g1, hd, hf⟩; have HS := Lib.hid (spoil_any b g1 w4 p (l ++ [ctE c.toNat]) hd); have HD := Lib.hid hd; have HF := Lib.hid hf; clear hf; obtain ⟨u4, q4, v4, xs4, hx4, -⟩ := hd; have y7 := hx4.cell 7 _ rfl; clear hx4; rw [HT.out] at y7)
          | (go_at_call 63; refine HS.out.mono ?_; rintro e w5 ⟨rfl, g2, hd, hf⟩; have HD5 := Lib.hid hd; have HF5 := Lib.hid hf; clear hd hf))
        go_end0
        refine ⟨rfl, g2, ?_, HF.out.trans HF5.out⟩
        have := HD5.out
        rwa [List.append_nil] at this
    · rw [if_neg (by rintro ⟨_, x⟩; exact k7 x)]
      have k8 : decide (n ≤ 5) = false := decide_eq_false k7
      clear k5 k7
      cases t
      · go_enter Tryz.func32, Tryz.ntmps32
        go_wp2_with (first
          | (go_at_call 59; refine HI.out.mono ?_; rintro e w1 ⟨rfl, rfl⟩)
          | (go_at_call 60; refine (isPrintable_any c _).mono ?_; rintro e w1 ⟨rfl, rfl⟩; rw [HPN.out]))
        go_end0
        refine FIN.out _ g ?_ (Frm.refl _)
        rw [post_ok HT.out, List.append_nil]
        exact HH.out
      · go_enter Tryz.func32, Tryz.ntmps32
        go_wp2_with (first
          | (go_at_call 59; refine HI.out.mono ?_; rintro e w1 ⟨rfl, rfl⟩)
          | (go_at_call 60; refine (isPrintable_any c _).mono ?_; rintro e w1 ⟨rfl, rfl⟩; rw [HPN.out])
          | (go_at_call 63; refine HSP.out.mono ?_; rintro e w5 ⟨rfl, g2, hd, hf⟩; have HD5 := Lib.hid hd; have HF5 := Lib.hid hf; clear hd hf))
        go_end0
        refine FIN.out _ g2 ?_ HF5.out
        rw [spo_post _ _ HT.out]
        exact HD5.out
end Go.Proofs.YtmboekpomjgnnaaGreatDoor.Sta
namespace Go.Proofs.YtmboekpomjgnnaaGreatDoor.Sta
open Go.RowKit Utf Par
variable {X : Nat → Prop}

/-- utf's table, which lies below the decoder -/
def MkB (b : Nat) (w : World) : Prop := Mk w ∧ 1 < b
theorem MkB.frm {b : Nat} {g g' : Option Nat} {w w' : World} (h : MkB b w) (hf : Frm b g g' w w') : MkB b w' := ⟨h.1.below hf.below h.2, h.2⟩
theorem take_gnd (c : UInt8) (b : Nat) (g : Option Nat) (w : World) (l : List EV) (h : Dec X b g w (begS 0) l) (hl : l.length ≤ 90000) (hc : c.toNat < 32 ∨ c.toNat = 127) :
    Calls Tryz.prog 32 #[.pointer (some ⟨b, 0, none⟩), .int .u8 (c.toNat : Int)] w (Did X b g w (grdS c) l) := by
  by_cases k1 : c.toNat = 24 ∨ c.toNat = 26
  · rw [show grdS c = (begS 0, []) by unfold grdS; rw [if_pos k1]]
    exact take_can c b g w (begS 0) l h rfl k1
  · by_cases k2 : c.toNat = 27
    · rw [show grdS c = (begS 1, []) by unfold grdS; rw [if_neg k1, if_pos k2]]
      exact take_esc c b g w (begS 0) l h rfl (by show (0 : Int) ≤ 0; omega) (by show (0 : Int) ≤ 100; omega) k2
    · have := take_low c b g w (begS 0) l h hl rfl (by omega) (by omega) k2 rfl (by unfold prnbB; simp; omega) (by omega)
      have e : post (if c.toNat ≠ 127 ∧ (begS 0).st ≤ 5 then (begS 0, [ctE c.toNat]) else (begS 0, [])) = grdS c := by
        unfold grdS
        rw [if_neg k1, if_neg k2]
        by_cases k3 : c.toNat < 32
        · rw [if_pos ⟨by omega, by show (0 : Int) ≤ 5; omega⟩, if_pos k3]; rfl
        · rw [if_neg (by omega), if_neg k3, if_pos (by omega)]; rfl
      rwa [e] at this
theorem cod_len (r : PS × List EV) (c : Int) : (codS r c).2.length ≤ r.2.length + 1 := by
  unfold codS
  split
  · rw [List.length_append]
    have : (grdS (UInt8.ofNat c.toNat)).2.length ≤ 1 := by unfold grdS; repeat' split
                                                           all_goals simp
    omega
  · split
    · simp
    · omega
theorem fold_len (cs : List Int) : ∀ r : PS × List EV, (cs.foldl codS r).2.length ≤ r.2.length + cs.length := by
  induction cs with
  | nil => intro r; simp
  | cons c cs ih => intro r; have := ih (codS r c); have := cod_len r c; simp only [List.foldl_cons, List.length_cons]; omega
theorem step_pos (u : List UInt8) (b : UInt8) : ∀ c ∈ (stepL u b).2, 0 ≤ c := by
  have tk : ∀ bs, ∀ c ∈ (takeL bs).2, 0 ≤ c := fun bs c hc => by
    cases bs with
    | nil => cases hc
    | cons b r =>
      have hc' : c ∈ (if r.length + 1 < fl b then (b :: r, []) else ([], [(low (b :: r) : Int)])).2 := hc
      split at hc'
      · cases hc'
      · simp at hc'; omega
  have al : ∀ c ∈ (aloneL b).2, 0 ≤ c := fun c hc => by
    unfold aloneL at hc
    split at hc
    · exact tk _ c hc
    · simp at hc; omega
  intro c hc
  unfold stepL at hc
  split at hc
  · split at hc
    · exact tk _ c hc
    · simp at hc
      rcases hc with rfl | hc
      · omega
      · exact al c hc
  · exact al c hc
/-- a decoder whose events are some more than l -/
def Run (X : Nat → Prop) (b : Nat) (g : Option Nat) (w1 : World) (r : PS × List EV) (l : List EV) (w : World) : Prop := ∃ g', Dec X b g' w r.1 (l ++ r.2) ∧ Frm b g g' w1 w
def stD (u : List UInt8) : PS × List EV := ({ begS 0 with utf := u }, [])
theorem prt_is (u : List UInt8) (b : UInt8) : prtS u b = (stepL u b).2.foldl codS (stD (stepL u b).1) := rfl
set_option maxRecDepth 100000 in
set_option maxHeartbeats 2000000 in
theorem decode_any (c : UInt8) (b : Nat) (g : Option Nat) (w : World) (us : List UInt8) (l : List EV) (h : Dec X b g w { begS 0 with utf := us } l) (hm : MkB b w) (hus : us.length ≤ 1000) (hl : l.length ≤ 80000) :
    Calls Tryz.prog 56 #[.pointer (some ⟨b, 0, none⟩), .int .u8 (c.toNat : Int)] w (Did X b g w (prtS us c) l) := by
  have HLL := Lib.hid hl
  clear hl
  obtain ⟨u, q, v, xs, hx, hv, hl, hg, hu, hq, hxs, hX⟩ := h
  have c1 := hx.cell 1 _ rfl
  have f1 := hx.free 1 (by show 1 < 9; decide)
  have HX := Lib.hid hx
  have HL := Lib.hid hl
  have HG := Lib.hid hg
  have HV := Lib.hid hv
  have HXS := Lib.hid hxs
  have HXX := Lib.hid hX
  have HU := Lib.hid hu
  have HQ := Lib.hid hq
  clear hl hg hx hv hxs hu hq hX
  have hbs := HX.out.1
  have hgk : ∀ k, g = some k → k < w.heap.size := fun k hk => (OwnV.blk HV.out k (HG.out.trans hk)).2
  obtain ⟨A, cu, hu, hcu, hrd⟩ := HU.out.1
  subst hu
  have HC := Lib.hid (step_anyH A cu us c w hrd hm.1 hcu (by omega))
  have HGK := Lib.hid hgk
  have HPOS := Lib.hid (step_pos us c)
  have HCTL := Lib.hid (show ∀ (k : Nat) (z : Int), (stepL us c).2[k]? = some z → ctlB z → (((stepL us c).2.take k).foldl codS (stD (stepL us c).1)).1 = begS 0 from fun k z hz hc => ctl_last us c k z hz hc [])
  have hsl := stepL_len us c
  rw [prt_is]
  unfold StepPostH at HC
  clear hgk hrd hm hus
  obtain ⟨rs, hrs⟩ : ∃ rs, (stepL us c).1 = rs := ⟨_, rfl⟩
  obtain ⟨cs, hcs⟩ : ∃ cs, (stepL us c).2 = cs := ⟨_, rfl⟩
  rw [hrs, hcs] at HC HCTL hsl ⊢
  rw [hcs] at HPOS
  clear hrs hcs
  obtain ⟨n, hn⟩ : ∃ n, n = us.length := ⟨_, rfl⟩
  have c1' := c1
  rw [show ({ begS 0 with utf := us } : PS).utf = us from rfl, ← hn] at c1'
  rw [← hn] at HC
  clear c1
  have HHN := Lib.hid hn
  clear hn
  obtain ⟨m, hm⟩ : ∃ m, m = cs.length := ⟨_, rfl⟩
  have HM := Lib.hid hm
  have hm2 : m ≤ 2 := by omega
  clear hsl
  rw [← hm] at HC
  clear hm
  go_enter Tryz.func56, Tryz.ntmps56
  go_wp2_with (go_at_call 76; refine HC.out.mono ?_; rintro e w1 ⟨A1, k1, A2, k2, rfl, hcc, -, hr1, hr2, hb1, o1, o2⟩; have hx1 := HX.out.keep hb1; have y1 := hx1.cell 1 _ rfl; have z1 := hx1.free 1 (by show 1 < 9; decide); have HX1 := Lib.hid hx1; clear hx1; have HB1 := Lib.hid hb1; have HR1 := Lib.hid hr1; have HR2 := Lib.hid hr2; have HO1 := Lib.hid o1; have HO2 := Lib.hid o2; have HCC := Lib.hid hcc; clear hb1 hr1 hr2 o1 o2 hcc)
  have hput := Dec.put (p' := { begS 0 with utf := rs }) HXX.out (HV.out.keep HB1.out) HL.out HG.out (QEx.frm HXS.out (Frm.of_below HB1.out (Nat.le_of_lt hbs))) HX1.out.1 (grown_set w1 b 1 (.slice A1 rs.length k1)) (Box.set HX1.out 1 _)
    ⟨⟨A1, k1, rfl, HCC.out, HR1.out⟩, fun ad n c e _ => by
      cases e
      have := HO1.out ad rfl
      exact ⟨by omega, fun y => by have := HGK.out _ y.symm; omega, HXX.out _ (by omega)⟩⟩ (RLx.frm HQ.out (Frm.of_below HB1.out (Nat.le_of_lt hbs)))
  have HPUT := Lib.hid hput
  have HOFF := Lib.hid (show ∀ ad, A2 = some ad → 0 < (cI cs).length → ad.block ≠ b ∧ some ad.block ≠ g from fun ad e _ => by
      have := HO2.out ad e
      exact ⟨by omega, fun y => by have := HGK.out _ y.symm; omega⟩)
  clear hput y1 z1 c1' f1
  go_loopw [25, 7] (fun i z wr => ∃ k : Nat, k ≤ m ∧ i = .int .i64 k ∧ Hid (Run X b g w1 ((cs.take k).foldl codS (stD rs)) l wr)) (fun i _ _ => m - (intOf i).toNat)
  case atStart =>
    refine ⟨0, Nat.zero_le _, rfl, g, ?_, HPUT.out.2⟩
    show Dec X b g _ { begS 0 with utf := rs } (l ++ [])
    rw [List.append_nil]
    exact HPUT.out.1
  case round =>
    obtain ⟨k, hk, rfl, hid⟩ := hrel
    by_cases hlt : k < m
    · obtain ⟨z, hz⟩ := get_some cs k (by rw [← HM.out]; exact hlt)
      obtain ⟨g1, hd, hf⟩ := hid.out
      obtain ⟨ad, hA, _, hc⟩ := (Rd.agx HR2.out hf.agx HOFF.out) k _ (cI_at cs k z hz)
      subst hA
      have hlen : (l ++ ((cs.take k).foldl codS (stD rs)).2).length ≤ 90000 := by
        rw [List.length_append]
        have h1 := fold_len (cs.take k) (stD rs)
        have h2 := List.length_take_le k cs
        have h3 := HM.out
        have h4 := HLL.out
        rw [show (stD rs).2.length = 0 from rfl] at h1
        omega
      have hst := fold_take codS cs k z (stD rs) hz
      have hz0 := HPOS.out z (List.mem_of_getElem? hz)
      have hctl := HCTL.out k z hz
      obtain ⟨r, hr⟩ : ∃ r, (cs.take k).foldl codS (stD rs) = r := ⟨_, rfl⟩
      rw [hr] at hd hlen hst hctl
      have HST := Lib.hid hst
      have HF := Lib.hid hf
      have HD := Lib.hid hd
      have HLN := Lib.hid hlen
      have HCT := Lib.hid hctl
      have Hid2 := Lib.hid (show ∀ W r', Run X b g1 wr r' (l ++ r.2) W → Run X b g w1 (r'.1, r.2 ++ r'.2) l W from fun W r' ⟨G, x1, x2⟩ => ⟨G, by rw [← List.append_assoc]; exact x1, hf.trans x2⟩)
      clear hid hst hf hd hlen hz hr hctl
      have i1 : (0 : Int) ≤ (k : Int) := by omega
      have i2 : (k : Int) < (m : Int) := by omega
      by_cases kc : z < 32 ∨ z = 127
      · have h127 : z.toNat ≤ 127 := by omega
        obtain ⟨cz, hcz⟩ : ∃ cz : UInt8, (cz.toNat : Int) = z := ⟨UInt8.ofNat z.toNat, by rw [UInt8.toNat_ofNat']; omega⟩
        have hcz2 : cz = UInt8.ofNat z.toNat := by
          apply UInt8.toNat_inj.1
          rw [UInt8.toNat_ofNat']; omega
        have HTK := Lib.hid (take_gnd cz b g1 wr (l ++ r.2) (by have := HD.out; rwa [HCT.out kc] at this) HLN.out (by omega))
        have hcod : codS r z = ((grdS cz).1, r.2 ++ (grdS cz).2) := by unfold codS; rw [if_pos kc, hcz2]
        have HCD := Lib.hid hcod
        have hb := cz.toNat_lt
        clear hcod hcz2
        subst hcz
        rcases kc with kc | kc
        · have d1 : decide ((cz.toNat : Int) < 32) = true := decide_eq_true kc
          go_wp2_with (go_at_call 32; refine HTK.out.mono ?_; rintro e w3 ⟨rfl, hrun⟩; have HRUN := Lib.hid hrun; clear hrun)
          go_roundw
          case rel => exact ⟨k + 1, by omega, by go_num, by rw [HST.out, HCD.out]; exact Hid2.out _ (grdS cz) HRUN.out⟩
          case measure => simp [intOf]; omega
        · have d1 : decide ((cz.toNat : Int) < 32) = false := decide_eq_false (by omega)
          have d2 : ((cz.toNat : Int) == 127) = true := by simp; omega
          clear kc
          go_wp2_with (go_at_call 32; refine HTK.out.mono ?_; rintro e w3 ⟨rfl, hrun⟩; have HRUN := Lib.hid hrun; clear hrun)
          go_roundw
          case rel => exact ⟨k + 1, by omega, by go_num, by rw [HST.out, HCD.out]; exact Hid2.out _ (grdS cz) HRUN.out⟩
          case measure => simp [intOf]; omega
      · have d1 : decide (z < 32) = false := decide_eq_false (by omega)
        have d2 : (z == 127) = false := by simp; omega
        by_cases kp : z < 127 ∨ 159 < z
        · have HR := Lib.hid (report_lit 1 z b g1 wr r.1 (l ++ r.2) HD.out HLN.out)
          have HCD := Lib.hid (show codS r z = (r.1, r.2 ++ [prE z]) by unfold codS; rw [if_neg kc, if_pos kp])
          by_cases kq : z < 128
          · have d3 : decide (z < 128) = true := decide_eq_true kq
            clear kc kp
            go_wp2_with (go_at_call 62; refine HR.out.mono ?_; rintro e w3 ⟨rfl, hrun⟩; have HRUN := Lib.hid hrun; clear hrun)
            go_roundw
            case rel => exact ⟨k + 1, by omega, by go_num, by rw [HST.out, HCD.out]; exact Hid2.out _ (r.1, [prE z]) HRUN.out⟩
            case measure => simp [intOf]; omega
          · have d3 : decide (z < 128) = false := decide_eq_false kq
            have d4 : decide (159 < z) = true := decide_eq_true (by omega)
            clear kc kp
            go_wp2_with (go_at_call 62; refine HR.out.mono ?_; rintro e w3 ⟨rfl, hrun⟩; have HRUN := Lib.hid hrun; clear hrun)
            go_roundw
            case rel => exact ⟨k + 1, by omega, by go_num, by rw [HST.out, HCD.out]; exact Hid2.out _ (r.1, [prE z]) HRUN.out⟩
            case measure => simp [intOf]; omega
        · have HCD := Lib.hid (show codS r z = r by unfold codS; rw [if_neg kc, if_neg kp])
          have d3 : decide (z < 128) = false := decide_eq_false (by omega)
          have d4 : decide (159 < z) = false := decide_eq_false (by omega)
          clear kc kp
          go_wp2
          go_roundw
          case rel => exact ⟨k + 1, by omega, by go_num, by rw [HST.out, HCD.out]; exact ⟨g1, HD.out, HF.out⟩⟩
          case measure => simp [intOf]; omega
    · have he := hid.out
      rw [List.take_of_length_le (by rw [← HM.out]; omega)] at he
      have HE := Lib.hid he
      clear he hid
      go_wp2
      go_end0
      obtain ⟨G, x1, x2⟩ := HE.out
      exact ⟨rfl, G, x1, (Frm.of_below HB1.out (Nat.le_of_lt hbs)).trans x2⟩
end Go.Proofs.YtmboekpomjgnnaaGreatDoor.Sta
namespace Go.Proofs.YtmboekpomjgnnaaGreatDoor.Sta
open Go.RowKit Utf Par
variable {X : Nat → Prop}

set_option maxRecDepth 100000 in
set_option maxHeartbeats 2000000 in
theorem take_hi (c : UInt8) (b : Nat) (g : Option Nat) (w : World) (p : PS) (l : List EV) (h : Dec X b g w p l) (hm : MkB b w) (hl0 : l.length ≤ 80000) (hu : p.utf = [])
    (hs : strB p.st = false) (h128 : 128 ≤ c.toNat) :
    Calls Tryz.prog 32 #[.pointer (some ⟨b, 0, none⟩), .int .u8 (c.toNat : Int)] w (Did X b g w (prtS [] c) l) := by
  have HI := Lib.hid (show Calls Tryz.prog 59 #[.pointer (some ⟨b, 0, none⟩)] w fun e w' => e = .returned (.bool false) ∧ w = w' from (inString_any b g w p l h).mono fun e w' ⟨h1, h2⟩ => ⟨by rw [h1, hs], h2⟩)
  have HPN := Lib.hid (show prnbB c = false by unfold prnbB; simp; omega)
  have hb := c.toNat_lt
  have HMB := Lib.hid hm
  have HL0 := Lib.hid hl0
  have HPB := Lib.hid (prt_bad [] c)
  clear hs hl0 hm
  have HH := Lib.hid h
  obtain ⟨u, q, v, xs, hx, hv, hl, hg, hu, hq, hxs, hX⟩ := h
  have c0 := hx.cell 0 _ rfl
  have c1 := hx.cell 1 _ rfl
  have c7 := hx.cell 7 _ rfl
  have HX := Lib.hid hx
  have HL := Lib.hid hl
  have HG := Lib.hid hg
  have HV := Lib.hid hv
  have HXS := Lib.hid hxs
  have HXX := Lib.hid hX
  have HU := Lib.hid hu
  have HQ := Lib.hid hq
  clear hl hg hx hv hxs hu hq hX
  obtain ⟨A, cu, rfl⟩ := HU.out.1.form
  rw [hu] at c1 HU HX
  clear hu
  have k1 : ((c.toNat : Int) == 24) = false := by simp; omega
  have k2 : ((c.toNat : Int) == 26) = false := by simp; omega
  have k3 : ((c.toNat : Int) == 27) = false := by simp; omega
  have k4 : decide ((128 : Int) ≤ (c.toNat : Int)) = true := by simp; omega
  clear h128 c7
  go_enter Tryz.func32, Tryz.ntmps32
  go_wp2_with (first
    | (go_at_call 59; refine HI.out.mono ?_; rintro e w1 ⟨rfl, rfl⟩)
    | (go_at_call 60; refine (isPrintable_any c _).mono ?_; rintro e w1 ⟨rfl, rfl⟩; rw [HPN.out])
    | (go_at_call 57; refine (enter_any b g w p l 0 HH.out).mono ?_; rintro e w3 ⟨rfl, g1, hd, hf⟩; have HC := Lib.hid (decode_any c b g1 w3 [] (l ++ []) hd (HMB.out.frm hf) (by simp) (by rw [List.append_nil]; exact HL0.out)); have HF := Lib.hid hf; clear hd hf)
    | (go_at_call 56; refine HC.out.mono ?_; rintro e w4 ⟨rfl, g2, hd, hf⟩; have HD := Lib.hid hd; have HF4 := Lib.hid hf; clear hf; obtain ⟨u4, q4, v4, xs4, hx4, -⟩ := hd; have y7 := hx4.cell 7 _ rfl; rw [HPB.out] at y7; clear hx4))
  go_end0
  have := HD.out
  rw [List.append_nil] at this
  exact ⟨rfl, g2, this, HF.out.trans HF4.out⟩
set_option maxRecDepth 100000 in
set_option maxHeartbeats 2000000 in
theorem take_utf (c : UInt8) (b : Nat) (g : Option Nat) (w : World) (us : List UInt8) (l : List EV) (h : Dec X b g w { begS 0 with utf := us } l) (hm : MkB b w) (hl0 : l.length ≤ 80000) (hu : us ≠ []) (hus : us.length ≤ 1000) :
    Calls Tryz.prog 32 #[.pointer (some ⟨b, 0, none⟩), .int .u8 (c.toNat : Int)] w (Did X b g w (prtS us c) l) := by
  have HC := Lib.hid (decode_any c b g w us l h hm hus hl0)
  have HPB := Lib.hid (prt_bad us c)
  have hn0 : 0 < us.length := List.length_pos_iff.2 hu
  clear hu hl0 hm
  obtain ⟨u, q, v, xs, hx, hv, hl, hg, hu, hq, hxs, hX⟩ := h
  have c1 := hx.cell 1 _ rfl
  have HX := Lib.hid hx
  have HL := Lib.hid hl
  have HG := Lib.hid hg
  have HV := Lib.hid hv
  have HXS := Lib.hid hxs
  have HXX := Lib.hid hX
  have HU := Lib.hid hu
  have HQ := Lib.hid hq
  clear hl hg hx hv hxs hu hq hX
  obtain ⟨A, cu, rfl⟩ := HU.out.1.form
  rw [show ({ begS 0 with utf := us } : PS).utf = us from rfl] at c1 HX HU
  obtain ⟨n, hn⟩ : ∃ n, n = us.length := ⟨_, rfl⟩
  rw [← hn] at c1 hn0 HX HU hus
  clear hn
  have d1 : decide ((0 : Int) < (n : Int)) = true := decide_eq_true (by omega)
  go_enter Tryz.func32, Tryz.ntmps32
  go_wp2_with (go_at_call 56; refine HC.out.mono ?_; rintro e w4 ⟨rfl, g2, hd, hf⟩; have HD := Lib.hid hd; have HF4 := Lib.hid hf; clear hf; obtain ⟨u4, q4, v4, xs4, hx4, -⟩ := hd; have y7 := hx4.cell 7 _ rfl; rw [HPB.out] at y7; clear hx4)
  go_end0
  exact ⟨rfl, g2, HD.out, HF4.out⟩
theorem escD_bad (c : UInt8) : (escD (begS 1) c).1.bad = false := by
  unfold escD addD
  rw [if_neg (show ¬ (begS 2).it.size = 2 from by decide)]
  repeat' split
  all_goals first | rfl | exact dsp_bad _ _ _
theorem take_e (c : UInt8) (b : Nat) (g : Option Nat) (w : World) (l : List EV) (h : Dec X b g w (begS 1) l) (hm : MkB b w) (hl : l.length ≤ 80000) :
    Calls Tryz.prog 32 #[.pointer (some ⟨b, 0, none⟩), .int .u8 (c.toNat : Int)] w (Did X b g w (tkeD c) l) := by
  unfold tkeD
  by_cases k1 : c.toNat = 24 ∨ c.toNat = 26
  · rw [if_pos k1]; exact take_can c b g w (begS 1) l h rfl k1
  · rw [if_neg k1]
    by_cases k2 : c.toNat = 27
    · rw [if_pos k2]
      exact take_esc c b g w (begS 1) l h rfl (by show (0 : Int) ≤ 1; omega) (by show (1 : Int) ≤ 100; omega) k2
    · rw [if_neg k2]
      by_cases k3 : prnbB c = true
      · rw [if_pos k3]
        have := take_rule1 c b g w (begS 1) l (escD (begS 1) c) h rfl rfl (by omega) (by omega) k2 k3 (fun W hW _ => escaped_any c b g W (begS 1) l hW (by omega))
        rwa [post_ok (escD_bad c)] at this
      · rw [if_neg k3]
        by_cases k4 : 128 ≤ c.toNat
        · rw [if_pos k4]
          exact take_hi c b g w (begS 1) l h hm hl rfl rfl k4
        · rw [if_neg k4]
          have := take_low c b g w (begS 1) l h (by omega) rfl (by omega) (by omega) k2 rfl (by simpa using k3) (by omega)
          by_cases k5 : c.toNat ≠ 127
          · rw [if_pos ⟨k5, by show (1 : Int) ≤ 5; omega⟩] at this
            rw [if_pos k5]; exact this
          · rw [if_neg (by rintro ⟨x, _⟩; exact k5 x)] at this
            rw [if_neg k5]; exact this
set_option maxRecDepth 100000 in
set_option maxHeartbeats 2000000 in
theorem end_any (c : UInt8) (b : Nat) (g : Option Nat) (w : World) (p : PS) (l : List EV) (h : Dec X b g w p l) (hm : MkB b w) (hl : l.length ≤ 80000) :
    Calls Tryz.prog 84 #[.pointer (some ⟨b, 0, none⟩), .int .u8 (c.toNat : Int)] w (Did X b g w (endD p c) l) := by
  have HH := Lib.hid h
  have HD5 := Lib.hid (show Calls Tryz.prog 97 #[.pointer (some ⟨b, 0, none⟩), .int .i64 5, .int .u8 0] w (Did X b g w (dspD p 5 0) l) from dispatch_any 5 0 b g w p l h (by omega))
  have HD6 := Lib.hid (dispatch_any 6 p.fi b g w p l h (by omega))
  have HE := Lib.hid (enter_any b g w p l 0 h)
  have HMB := Lib.hid hm
  have HL0 := Lib.hid hl
  clear hl hm
  obtain ⟨u, q, v, xs, hx, hv, hl, hg, hu, hq, hxs, hX⟩ := h
  have c0 := hx.cell 0 _ rfl
  have c3 := hx.cell 3 _ rfl
  have HX := Lib.hid hx
  have HL := Lib.hid hl
  have HG := Lib.hid hg
  have HV := Lib.hid hv
  have HXS := Lib.hid hxs
  have HXX := Lib.hid hX
  have HU := Lib.hid hu
  have HQ := Lib.hid hq
  clear hl hg hx hv hxs hu hq hX
  unfold endD
  by_cases k : c.toNat ≠ 92
  · rw [if_pos k]
    have k1 : ((c.toNat : Int) != 92) = true := by simp; omega
    clear k c0 c3
    go_enter Tryz.func84, Tryz.ntmps84
    go_wp2_with (first
      | (go_at_call 57; refine (enter_any b g w p l 1 HH.out).mono ?_; rintro e w3 ⟨rfl, g1, hd, hf⟩; have HC := Lib.hid (take_e c b g1 w3 (l ++ []) hd (HMB.out.frm hf) (by rw [List.append_nil]; exact HL0.out)); have HF := Lib.hid hf; clear hd hf)
      | (go_at_call 32; refine HC.out.mono ?_; rintro e w4 ⟨rfl, g2, hd, hf⟩; have HD := Lib.hid hd; have HF4 := Lib.hid hf; clear hf hd))
    go_end0
    have := HD.out
    rw [List.append_nil] at this
    exact ⟨rfl, g2, this, HF.out.trans HF4.out⟩
  · rw [if_neg k]
    have e92 : (c.toNat : Int) = 92 := by omega
    rw [e92]
    clear k e92
    obtain ⟨n, hn⟩ : ∃ n, n = p.st := ⟨_, rfl⟩
    rw [← hn] at c0 ⊢
    clear hn
    by_cases k7 : n = 7
    · rw [if_pos k7]
      subst k7
      go_enter Tryz.func84, Tryz.ntmps84
      go_wp2_with (go_at_call 97; refine HD5.out.mono ?_; rintro e w1 ⟨rfl, hd⟩; have HD := Lib.hid hd; clear hd)
      go_end0
      exact ⟨rfl, HD.out⟩
    · rw [if_neg k7]
      have d7 : (n == 7) = false := by simp; omega
      by_cases k12 : n = 12
      · rw [if_pos k12]
        subst k12
        clear d7 k7
        go_enter Tryz.func84, Tryz.ntmps84
        go_wp2_with (go_at_call 97; refine HD6.out.mono ?_; rintro e w1 ⟨rfl, hd⟩; have HD := Lib.hid hd; clear hd)
        go_end0
        exact ⟨rfl, HD.out⟩
      · rw [if_neg k12]
        have d12 : (n == 12) = false := by simp; omega
        clear k7 k12
        go_enter Tryz.func84, Tryz.ntmps84
        go_wp2_with (go_at_call 57; refine HE.out.mono ?_; rintro e w1 ⟨rfl, hd⟩; have HD := Lib.hid hd; clear hd)
        go_end0
        exact ⟨rfl, HD.out⟩
theorem take_raw (c : UInt8) (b : Nat) (g : Option Nat) (w : World) (p : PS) (l : List EV) (h : Dec X b g w p l) (hm : MkB b w) (hl : l.length ≤ 80000) (hp : mayS p = true) :
    Calls Tryz.prog 32 #[.pointer (some ⟨b, 0, none⟩), .int .u8 (c.toNat : Int)] w (Did X b g w (takD p c) l) := by
  have hf := Fit.of_may hp
  have hst := may_st hp
  rw [tak_post]
  by_cases hu : p.utf = []
  · unfold rawD
    rw [if_neg (by rw [hu]; simp)]
    by_cases k1 : c.toNat = 24 ∨ c.toNat = 26
    · rw [if_pos k1]; exact take_can c b g w p l h hu k1
    · rw [if_neg k1]
      by_cases k2 : c.toNat = 27
      · rw [if_pos k2]; exact take_esc c b g w p l h hu hf.lo hf.hi k2
      · rw [if_neg k2]
        have n24 : c.toNat ≠ 24 := fun e => k1 (.inl e)
        have n26 : c.toNat ≠ 26 := fun e => k1 (.inr e)
        by_cases k3 : (strB p.st || prnbB c) = true
        · rw [if_pos k3]
          have hl9 : l.length ≤ 90000 := by omega
          have hpr : strB p.st = false → prnbB c = true := fun x => by rwa [x, Bool.false_or] at k3
          have hc : p.st = 0 ∨ p.st = 1 ∨ p.st = 2 ∨ p.st = 3 ∨ p.st = 4 ∨ p.st = 5 ∨ p.st = 6 ∨ p.st = 7 ∨ p.st = 8 ∨ p.st = 9 ∨ p.st = 10 ∨ p.st = 11 ∨ p.st = 12 ∨ p.st = 13 ∨ p.st = 14 := by omega
          unfold rulD
          rcases hc with e | e | e | e | e | e | e | e | e | e | e | e | e | e | e
          · rw [if_pos e]
            exact take_rule0 c b g w p l _ h e hu n24 n26 k2 (hpr (by rw [e]; rfl)) (fun W hW _ => print_any c b g W p l hW hl9)
          · rw [if_neg (by omega), if_pos e]
            exact take_rule1 c b g w p l _ h e hu n24 n26 k2 (hpr (by rw [e]; rfl)) (fun W hW _ => escaped_any c b g W p l hW hl9)
          · rw [if_neg (by omega), if_neg (by omega), if_pos e]
            exact take_rule2 c b g w p l _ h e hu n24 n26 k2 (hpr (by rw [e]; rfl)) (fun W hW _ => sign_any c b g W p l hW hl9 hf)
          · rw [if_neg (by omega), if_neg (by omega), if_neg (by omega), if_pos e]
            exact take_rule3 c b g w p l _ h e hu n24 n26 k2 (hpr (by rw [e]; rfl)) (fun W hW _ => entry_any c b g W p l hW hl9 hf (by omega))
          · rw [if_neg (by omega), if_neg (by omega), if_neg (by omega), if_neg (by omega), if_pos e]
            exact take_rule4 c b g w p l _ h e hu n24 n26 k2 (hpr (by rw [e]; rfl)) (fun W hW _ => param_any c b g W p l hW hl9 hf)
          · rw [if_neg (by omega), if_neg (by omega), if_neg (by omega), if_neg (by omega), if_neg (by omega), if_pos e]
            exact take_rule5 c b g w p l _ h e hu n24 n26 k2 (hpr (by rw [e]; rfl)) (fun W hW _ => inter_any c b g W p l hW hl9 hf)
          · rw [if_neg (by omega), if_neg (by omega), if_neg (by omega), if_neg (by omega), if_neg (by omega), if_neg (by omega), if_pos e]
            exact take_rule6 c b g w p l _ h e hu n24 n26 k2 (fun W hW _ => osc_any c b g W p l hW hl9 hf)
          · rw [if_neg (by omega), if_neg (by omega), if_neg (by omega), if_neg (by omega), if_neg (by omega), if_neg (by omega), if_neg (by omega), if_pos e]
            exact take_rule7 c b g w p l _ h e hu n24 n26 k2 (fun W hW hfr => end_any c b g W p l hW (hm.frm hfr) hl)
          · rw [if_neg (by omega), if_neg (by omega), if_neg (by omega), if_neg (by omega), if_neg (by omega), if_neg (by omega), if_neg (by omega), if_neg (by omega), if_pos e]
            exact take_rule8 c b g w p l _ h e hu n24 n26 k2 (hpr (by rw [e]; rfl)) (fun W hW _ => entry_any c b g W p l hW hl9 hf (by omega))
          · rw [if_neg (by omega), if_neg (by omega), if_neg (by omega), if_neg (by omega), if_neg (by omega), if_neg (by omega), if_neg (by omega), if_neg (by omega), if_neg (by omega), if_pos e]
            exact take_rule9 c b g w p l _ h e hu n24 n26 k2 (hpr (by rw [e]; rfl)) (fun W hW _ => param_any c b g W p l hW hl9 hf)
          · rw [if_neg (by omega), if_neg (by omega), if_neg (by omega), if_neg (by omega), if_neg (by omega), if_neg (by omega), if_neg (by omega), if_neg (by omega), if_neg (by omega), if_neg (by omega), if_pos e]
            exact take_rule10 c b g w p l _ h e hu n24 n26 k2 (hpr (by rw [e]; rfl)) (fun W hW _ => inter_any c b g W p l hW hl9 hf)
          · rw [if_neg (by omega), if_neg (by omega), if_neg (by omega), if_neg (by omega), if_neg (by omega), if_neg (by omega), if_neg (by omega), if_neg (by omega), if_neg (by omega), if_neg (by omega), if_neg (by omega), if_pos e]
            exact take_rule11 c b g w p l _ h e hu n24 n26 k2 (fun W hW _ => text_any7 c b g W p l hW hf.tx)
          · rw [if_neg (by omega), if_neg (by omega), if_neg (by omega), if_neg (by omega), if_neg (by omega), if_neg (by omega), if_neg (by omega), if_neg (by omega), if_neg (by omega), if_neg (by omega), if_neg (by omega), if_neg (by omega), if_pos e]
            exact take_rule12 c b g w p l _ h e hu n24 n26 k2 (fun W hW hfr => end_any c b g W p l hW (hm.frm hfr) hl)
          · rw [if_neg (by omega), if_neg (by omega), if_neg (by omega), if_neg (by omega), if_neg (by omega), if_neg (by omega), if_neg (by omega), if_neg (by omega), if_neg (by omega), if_neg (by omega), if_neg (by omega), if_neg (by omega), if_neg (by omega), if_pos e]
            exact take_rule13 c b g w p l _ h e hu n24 n26 k2 (fun W hW _ => ignore_any c b g W p l hW)
          · rw [if_neg (by omega), if_neg (by omega), if_neg (by omega), if_neg (by omega), if_neg (by omega), if_neg (by omega), if_neg (by omega), if_neg (by omega), if_neg (by omega), if_neg (by omega), if_neg (by omega), if_neg (by omega), if_neg (by omega), if_neg (by omega)]
            exact take_rule14 c b g w p l _ h e hu n24 n26 k2 (fun W hW hfr => end_any c b g W p l hW (hm.frm hfr) hl)
        · rw [if_neg k3]
          have hs : strB p.st = false := by cases x : strB p.st with | false => rfl | true => exact absurd (by rw [x]; rfl) k3
          have hq : prnbB c = false := by cases x : prnbB c with | false => rfl | true => exact absurd (by rw [x]; simp) k3
          by_cases k4 : 128 ≤ c.toNat
          · rw [if_pos k4, post_ok (prt_bad _ _)]
            exact take_hi c b g w p l h hm hl hu hs k4
          · rw [if_neg k4]
            exact take_low c b g w p l h (by omega) hu n24 n26 k2 hs hq (by omega)
  · have hp0 : p = { begS 0 with utf := p.utf } ∧ p.utf.length ≤ 1000 := by
      cases hb : p.bad with
      | true => obtain ⟨e, _⟩ := may_bad hp hb; exact absurd (by rw [e]; rfl) hu
      | false =>
        have gd := (may_good hb).1 hp
        obtain ⟨st, utf, pr, fi, ps, it, tx, bad⟩ := p
        have a0 := gd.utf; have a1 := gd.psn; have a2 := gd.pr; have a3 := gd.fi; have a4 := gd.txn; have a5 := gd.itm
        dsimp only at hu hb a0 a1 a2 a3 a4 a5 ⊢
        have e0 : st = 0 ∧ preB utf = true := by rcases a0 with x | x; exact absurd x hu; exact ⟨x.2, x.1⟩
        unfold mostS at a5
        have b1 : ps = [] := by rcases a1 with x | x; exact x; omega
        have b2 : pr = 0 := by rcases a2 with x | x; exact x; omega
        have b3 : fi = 0 := by rcases a3 with x | x; omega; exact x.2.2
        have b4 : tx = nos := ba_nil _ (by omega)
        have b5 : it = nos := ba_nil _ (by rw [if_neg (by omega)] at a5; omega)
        refine ⟨by rw [e0.1, b1, b2, b3, b4, b5, hb]; rfl, ?_⟩
        have := preB_len utf e0.2
        omega
    have hr : rawD p c = prtS p.utf c := by unfold rawD; rw [if_pos hu]
    rw [hr, post_ok (prt_bad _ _)]
    rw [hp0.1] at h
    exact take_utf c b g w p.utf l h hm hl hu hp0.2
/-- a byte, at every valid parse: what the chapter says, and the parse stays valid -/
theorem take_any6 (c : UInt8) (b : Nat) (g : Option Nat) (w : World) (p : PS) (l : List EV) (h : Dec X b g w p l) (hm : MkB b w) (hl : l.length ≤ 80000) (hp : mayS p = true) :
    Calls Tryz.prog 32 #[.pointer (some ⟨b, 0, none⟩), .int .u8 (c.toNat : Int)] w (Did X b g w (oneS p c) l) := by
  rw [← (tak_is c hp).1]
  exact take_raw c b g w p l h hm hl hp
end Go.Proofs.YtmboekpomjgnnaaGreatDoor.Sta
