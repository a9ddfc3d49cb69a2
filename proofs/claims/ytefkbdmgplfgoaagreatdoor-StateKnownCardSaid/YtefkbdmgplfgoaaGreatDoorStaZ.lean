/-
  Contracts of the decoder's methods, second part.
-/
import Derived.Test.YtefkbdmgplfgoaaGreatDoorStaY
namespace Go.Proofs.YtefkbdmgplfgoaaGreatDoor.Sta
open Go.RowKit Utf Par
variable {X : Nat → Prop}

/-- the sizes and numbers that the methods bear -/
structure Fit (p : PS) : Prop where
  lo : 0 ≤ p.st
  hi : p.st ≤ 100
  it : p.it.size ≤ 1000000
  tx : p.tx.size ≤ 1000000
  ps : Sz p.ps
theorem Fit.of_may {p : PS} (h : mayS p = true) : Fit p := by
  have hs := may_st h
  cases hb : p.bad with
  | true =>
    obtain ⟨e, _⟩ := may_bad h hb
    refine ⟨hs.1, by omega, by rw [e]; show (0 : Nat) ≤ _; omega, by rw [e]; show (0 : Nat) ≤ _; omega, by rw [e]; exact ⟨by show (0 : Nat) ≤ _; omega, by intro x hx; cases hx⟩⟩
  | false =>
    have g := (may_good hb).1 h
    have := g.itm
    have := g.txl
    refine ⟨hs.1, by omega, ?_, by omega, ?_⟩
    · have := g.itm; unfold mostS at this; split at this <;> omega
    · obtain ⟨h1, h2, _⟩ := bad_no g.ps
      exact ⟨by omega, fun x hx => by have := h2 x hx; omega⟩
theorem Did.seq {b : Nat} {g g1 : Option Nat} {w w1 : World} {p1 : PS} {l : List EV} {r : PS × List EV} {e : Ending} {w' : World} (_ : Dec X b g1 w1 p1 l) (hf : Frm b g g1 w w1) (h : Did X b g1 w1 r l e w') : Did X b g w r l e w' := by
  obtain ⟨he, g2, h2, h3⟩ := h
  exact ⟨he, g2, h2, hf.trans h3⟩

set_option maxRecDepth 100000 in
set_option maxHeartbeats 2000000 in
theorem osc_any (c : UInt8) (b : Nat) (g : Option Nat) (w : World) (p : PS) (l : List EV) (h : Dec X b g w p l) (hs : l.length ≤ 90000) (hp : Fit p) :
    Calls Tryz.prog 96 #[.pointer (some ⟨b, 0, none⟩), .int .u8 (c.toNat : Int)] w (Did X b g w (oscD p c) l) := by
  have HC := Lib.hid (show Calls Tryz.prog 112 #[.pointer (some ⟨b, 0, none⟩), .int .i64 5, .int .u8 0] w (Did X b g w (dspD p 5 0) l) from dispatch_any 5 0 b g w p l h hs)
  have HT := Lib.hid (text_any7 c b g w p l h hp.tx)
  clear h hs hp
  unfold oscD
  by_cases k : c.toNat = 7
  · rw [if_pos k]
    have k1 : ((c.toNat : Int) == 7) = true := by simp; omega
    go_enter Tryz.func96, Tryz.ntmps96
    go_wp2_with (go_at_call 112; refine HC.out.mono ?_; rintro e w1 ⟨rfl, hd⟩; have HD := Lib.hid hd; clear hd)
    go_end0
    exact ⟨rfl, HD.out⟩
  · rw [if_neg k]
    have k1 : ((c.toNat : Int) == 7) = false := by simp; omega
    go_enter Tryz.func96, Tryz.ntmps96
    go_wp2_with (go_at_call 98; refine HT.out.mono ?_; rintro e w1 ⟨rfl, hd⟩; have HD := Lib.hid hd; clear hd)
    go_end0
    exact ⟨rfl, HD.out⟩
set_option maxRecDepth 100000 in
set_option maxHeartbeats 2000000 in
theorem sign_any (c : UInt8) (b : Nat) (g : Option Nat) (w : World) (p : PS) (l : List EV) (h : Dec X b g w p l) (hs : l.length ≤ 90000) (hp : Fit p) :
    Calls Tryz.prog 92 #[.pointer (some ⟨b, 0, none⟩), .int .u8 (c.toNat : Int)] w (Did X b g w (sgnD p c) l) := by
  have HC := Lib.hid (dispatch_any 3 c b g w p l h hs)
  have HA := Lib.hid (addInter_any c b g w p l h hp.it)
  clear h hs hp
  unfold sgnD
  obtain ⟨t, ht⟩ : ∃ t, signB c = t := ⟨_, rfl⟩
  have HT := Lib.hid ht
  rw [ht]
  clear ht
  cases t
  · rw [if_neg (by decide)]
    go_enter Tryz.func92, Tryz.ntmps92
    go_wp2_with (first
      | (go_at_call 47; refine (isSign_any c _).mono ?_; rintro e w1 ⟨rfl, rfl⟩; rw [HT.out])
      | (go_at_call 112; refine HC.out.mono ?_; rintro e w1 ⟨rfl, hd⟩; have HD := Lib.hid hd; clear hd))
    go_end0
    exact ⟨rfl, HD.out⟩
  · rw [if_pos rfl]
    go_enter Tryz.func92, Tryz.ntmps92
    go_wp2_with (first
      | (go_at_call 47; refine (isSign_any c _).mono ?_; rintro e w1 ⟨rfl, rfl⟩; rw [HT.out])
      | (go_at_call 111; refine HA.out.mono ?_; rintro e w1 ⟨rfl, hd⟩; have HD := Lib.hid hd; clear hd))
    go_end0
    exact ⟨rfl, HD.out⟩
set_option maxRecDepth 100000 in
set_option maxHeartbeats 2000000 in
theorem inter_any (c : UInt8) (b : Nat) (g : Option Nat) (w : World) (p : PS) (l : List EV) (h : Dec X b g w p l) (hs : l.length ≤ 90000) (hp : Fit p) :
    Calls Tryz.prog 95 #[.pointer (some ⟨b, 0, none⟩), .int .u8 (c.toNat : Int)] w (Did X b g w (intD p c) l) := by
  have HF := Lib.hid (final_any c b g w p l h hs)
  have HA := Lib.hid (addInter_any c b g w p l h hp.it)
  have HP := Lib.hid (spoil_any b g w p l h)
  clear h hs hp
  unfold intD
  obtain ⟨t, ht⟩ : ∃ t, signB c = t := ⟨_, rfl⟩
  have HT := Lib.hid ht
  obtain ⟨s, hs⟩ : ∃ s, finlB c = s := ⟨_, rfl⟩
  have HS := Lib.hid hs
  rw [ht, hs]
  clear ht hs
  cases t <;> cases s
  · rw [if_neg (by decide), if_neg (by decide)]
    go_enter Tryz.func95, Tryz.ntmps95
    go_wp2_with (first
      | (go_at_call 47; refine (isSign_any c _).mono ?_; rintro e w1 ⟨rfl, rfl⟩; rw [HT.out])
      | (go_at_call 48; refine (isFinal_any c _).mono ?_; rintro e w1 ⟨rfl, rfl⟩; rw [HS.out])
      | (go_at_call 71; refine HP.out.mono ?_; rintro e w1 ⟨rfl, hd⟩; have HD := Lib.hid hd; clear hd))
    go_end0
    exact ⟨rfl, HD.out⟩
  · rw [if_neg (by decide), if_pos rfl]
    go_enter Tryz.func95, Tryz.ntmps95
    go_wp2_with (first
      | (go_at_call 47; refine (isSign_any c _).mono ?_; rintro e w1 ⟨rfl, rfl⟩; rw [HT.out])
      | (go_at_call 48; refine (isFinal_any c _).mono ?_; rintro e w1 ⟨rfl, rfl⟩; rw [HS.out])
      | (go_at_call 113; refine HF.out.mono ?_; rintro e w1 ⟨rfl, hd⟩; have HD := Lib.hid hd; clear hd))
    go_end0
    exact ⟨rfl, HD.out⟩
  all_goals
    rw [if_pos rfl]
    go_enter Tryz.func95, Tryz.ntmps95
    go_wp2_with (first
      | (go_at_call 47; refine (isSign_any c _).mono ?_; rintro e w1 ⟨rfl, rfl⟩; rw [HT.out])
      | (go_at_call 111; refine HA.out.mono ?_; rintro e w1 ⟨rfl, hd⟩; have HD := Lib.hid hd; clear hd))
    go_end0
    exact ⟨rfl, HD.out⟩
set_option maxRecDepth 100000 in
set_option maxHeartbeats 2000000 in
theorem param_any (c : UInt8) (b : Nat) (g : Option Nat) (w : World) (p : PS) (l : List EV) (h : Dec X b g w p l) (hs : l.length ≤ 90000) (hp : Fit p) :
    Calls Tryz.prog 94 #[.pointer (some ⟨b, 0, none⟩), .int .u8 (c.toNat : Int)] w (Did X b g w (parmD p c) l) := by
  have HF := Lib.hid (final_any c b g w p l h hs)
  have HP := Lib.hid (spoil_any b g w p l h)
  have HR := Lib.hid (addParam_any c b g w p l h hp.ps)
  obtain ⟨u, q, v, xs, hx, hv, hl, hg, hu, hq, hxs, hX⟩ := h
  have c0 := hx.cell 0 _ rfl
  have f0 := hx.free 0 (by show 0 < 9; decide)
  have HX := Lib.hid hx
  have HL := Lib.hid hl
  have HG := Lib.hid hg
  have HV := Lib.hid hv
  have HXS := Lib.hid hxs
  have HXX := Lib.hid hX
  have HU := Lib.hid hu
  have HQ := Lib.hid hq
  clear hl hg hx hv hxs hu hq hX
  have hbs := HX.out.1
  have hput := Dec.put (p' := { p with st := p.st + 1 }) HXX.out HV.out HL.out HG.out HXS.out hbs (grown_set w b 0 (.int .i64 (p.st + 1))) (Box.set HX.out 0 _) HU.out HQ.out
  have HA := Lib.hid ((addInter_any c b g _ { p with st := p.st + 1 } l hput.1 hp.it).mono (fun _ _ hd => Did.seq (w := w) hput.1 hput.2 hd))
  have h0 := hp.lo
  have h1 := hp.hi
  clear hput hs hp
  unfold parmD
  obtain ⟨n, hn⟩ : ∃ n, n = p.st := ⟨_, rfl⟩
  rw [← hn] at c0 h0 h1 HA HP ⊢
  clear hn
  obtain ⟨t, ht⟩ : ∃ t, signB c = t := ⟨_, rfl⟩
  have HT := Lib.hid ht
  obtain ⟨s, hs⟩ : ∃ s, privB c = s := ⟨_, rfl⟩
  have HS := Lib.hid hs
  obtain ⟨f, hf⟩ : ∃ f, finlB c = f := ⟨_, rfl⟩
  have HFF := Lib.hid hf
  rw [ht, hs, hf]
  clear ht hs hf
  cases t
  · rw [if_neg (by decide)]
    cases s
    · rw [if_neg (by decide)]
      cases f
      · rw [if_neg (by decide)]
        go_enter Tryz.func94, Tryz.ntmps94
        go_wp2_with (first
          | (go_at_call 47; refine (isSign_any c _).mono ?_; rintro e w1 ⟨rfl, rfl⟩; rw [HT.out])
          | (go_at_call 44; refine (isPrivate_any c _).mono ?_; rintro e w1 ⟨rfl, rfl⟩; rw [HS.out])
          | (go_at_call 48; refine (isFinal_any c _).mono ?_; rintro e w1 ⟨rfl, rfl⟩; rw [HFF.out])
          | (go_at_call 114; refine HR.out.mono ?_; rintro e w1 ⟨rfl, hd⟩; have HD := Lib.hid hd; clear hd))
        go_end0
        exact ⟨rfl, HD.out⟩
      · rw [if_pos rfl]
        go_enter Tryz.func94, Tryz.ntmps94
        go_wp2_with (first
          | (go_at_call 47; refine (isSign_any c _).mono ?_; rintro e w1 ⟨rfl, rfl⟩; rw [HT.out])
          | (go_at_call 44; refine (isPrivate_any c _).mono ?_; rintro e w1 ⟨rfl, rfl⟩; rw [HS.out])
          | (go_at_call 48; refine (isFinal_any c _).mono ?_; rintro e w1 ⟨rfl, rfl⟩; rw [HFF.out])
          | (go_at_call 113; refine HF.out.mono ?_; rintro e w1 ⟨rfl, hd⟩; have HD := Lib.hid hd; clear hd))
        go_end0
        exact ⟨rfl, HD.out⟩
    · rw [if_pos rfl]
      go_enter Tryz.func94, Tryz.ntmps94
      go_wp2_with (first
        | (go_at_call 47; refine (isSign_any c _).mono ?_; rintro e w1 ⟨rfl, rfl⟩; rw [HT.out])
        | (go_at_call 44; refine (isPrivate_any c _).mono ?_; rintro e w1 ⟨rfl, rfl⟩; rw [HS.out])
        | (go_at_call 71; refine HP.out.mono ?_; rintro e w1 ⟨rfl, hd⟩; have HD := Lib.hid hd; clear hd))
      go_end0
      exact ⟨rfl, HD.out⟩
  · rw [if_pos rfl]
    go_enter Tryz.func94, Tryz.ntmps94
    go_wp2_with (first
      | (go_at_call 47; refine (isSign_any c _).mono ?_; rintro e w1 ⟨rfl, rfl⟩; rw [HT.out])
      | (go_at_call 111; refine HA.out.mono ?_; rintro e w1 ⟨rfl, hd⟩; have HD := Lib.hid hd; clear hd))
    go_end0
    exact ⟨rfl, HD.out⟩
set_option maxRecDepth 100000 in
set_option maxHeartbeats 2000000 in
theorem entry_any (c : UInt8) (b : Nat) (g : Option Nat) (w : World) (p : PS) (l : List EV) (h : Dec X b g w p l) (hs : l.length ≤ 90000) (hp : Fit p) (hp2 : p.st ≤ 50) :
    Calls Tryz.prog 93 #[.pointer (some ⟨b, 0, none⟩), .int .u8 (c.toNat : Int)] w (Did X b g w (entD p c) l) := by
  obtain ⟨u, q, v, xs, hx, hv, hl, hg, hu, hq, hxs, hX⟩ := h
  have c0 := hx.cell 0 _ rfl
  have c2 := hx.cell 2 _ rfl
  have f0 := hx.free 0 (by show 0 < 9; decide)
  have f2 := hx.free 2 (by show 2 < 9; decide)
  have HX := Lib.hid hx
  have HL := Lib.hid hl
  have HG := Lib.hid hg
  have HV := Lib.hid hv
  have HXS := Lib.hid hxs
  have HXX := Lib.hid hX
  have HU := Lib.hid hu
  have HQ := Lib.hid hq
  clear hl hg hx hv hxs hu hq hX
  have hbs := HX.out.1
  have hput := Dec.put (p' := { p with st := p.st + 1 }) HXX.out HV.out HL.out HG.out HXS.out hbs (grown_set w b 0 (.int .i64 (p.st + 1))) (Box.set HX.out 0 _) HU.out HQ.out
  have hput2 := Dec.put (p' := { p with st := p.st + 1, pr := c }) HXX.out HV.out HL.out HG.out HXS.out hbs ((grown_set w b 0 (.int .i64 (p.st + 1))).trans (grown_set _ b 2 (.int .u8 (c.toNat : Int)))) (Box.set (Box.set HX.out 0 _) 2 _) HU.out HQ.out
  have HA := Lib.hid ((param_any c b g _ { p with st := p.st + 1 } l hput.1 hs ⟨by have := hp.lo; show 0 ≤ p.st + 1; omega, by show p.st + 1 ≤ 100; omega, hp.it, hp.tx, hp.ps⟩).mono (fun _ _ hd => Did.seq (w := w) hput.1 hput.2 hd))
  have HP2 := Lib.hid hput2
  have h0 := hp.lo
  have h1 := hp.hi
  clear hput hput2 hs hp hp2
  unfold entD
  obtain ⟨n, hn⟩ : ∃ n, n = p.st := ⟨_, rfl⟩
  rw [← hn] at c0 h0 h1 HA HP2 ⊢
  clear hn
  obtain ⟨s, hs⟩ : ∃ s, privB c = s := ⟨_, rfl⟩
  have HS := Lib.hid hs
  rw [hs]
  clear hs
  cases s
  · rw [if_neg (by decide)]
    go_enter Tryz.func93, Tryz.ntmps93
    go_wp2_with (first
      | (go_at_call 44; refine (isPrivate_any c _).mono ?_; rintro e w1 ⟨rfl, rfl⟩; rw [HS.out])
      | (go_at_call 94; refine HA.out.mono ?_; rintro e w1 ⟨rfl, hd⟩; have HD := Lib.hid hd; clear hd))
    go_end0
    exact ⟨rfl, HD.out⟩
  · rw [if_pos rfl]
    go_enter Tryz.func93, Tryz.ntmps93
    go_wp2_with (go_at_call 44; refine (isPrivate_any c _).mono ?_; rintro e w1 ⟨rfl, rfl⟩; rw [HS.out])
    go_end0
    exact Did.of HP2.out
set_option maxRecDepth 100000 in
set_option maxHeartbeats 2000000 in
theorem ignore_any (c : UInt8) (b : Nat) (g : Option Nat) (w : World) (p : PS) (l : List EV) (h : Dec X b g w p l) :
    Calls Tryz.prog 99 #[.pointer (some ⟨b, 0, none⟩), .int .u8 (c.toNat : Int)] w (Did X b g w (p, []) l) := by
  have HH := Lib.hid h
  clear h
  go_enter Tryz.func99, Tryz.ntmps99
  go_wp2
  go_end0
  exact Did.of ⟨HH.out, Frm.refl _⟩
end Go.Proofs.YtefkbdmgplfgoaaGreatDoor.Sta
