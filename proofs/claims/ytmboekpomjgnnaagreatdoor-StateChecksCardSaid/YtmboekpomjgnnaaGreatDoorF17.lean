/-
  StaY StaZ StaAa
-/
import Derived.StillTailTactics
import Derived.Deep.RegionWith
import Derived.Test.YtmboekpomjgnnaaGreatDoorF9
import Derived.Test.YtmboekpomjgnnaaGreatDoorF11
namespace Go.Proofs.YtmboekpomjgnnaaGreatDoor.Sta
open Go.RowKit Utf Par
variable {X : Nat → Prop}

theorem str1d (w : World) (b : UInt8) (t : TypeId) : (convert 22 9 (.slice (some ⟨w.heap.size, 0, none⟩) 1 1)).run Tryz.prog (w.alloc (.cells #[.int .u8 (b.toNat : Int)] t)).drew = .ok (.string (bs1 b)) (w.alloc (.cells #[.int .u8 (b.toNat : Int)] t)).drew := by
  refine run_convert_bytes_back (w.alloc (.cells #[.int .u8 (b.toNat : Int)] t)).drew 22 9 5 ⟨w.heap.size, 0, none⟩ 1 [b] Tryz.underlying22 Tryz.underlying5 Tryz.underlying9 fun j hj => ?_
  have h0 : j = 0 := by simpa using hj
  subst h0
  have hr : Rd (w.alloc (.cells #[.int .u8 (b.toNat : Int)] t)).drew (some ⟨w.heap.size, 0, none⟩) (cB [b]) := (Rd.one _ _ _).below ((Below.refl _ _).drew)
  obtain ⟨ad, e, _, hc⟩ := hr 0 _ rfl
  cases e
  exact hc
theorem grown_drew {w w' : World} {row : Option Nat} (h : w.grownBy w' row) : w.grownBy w'.drew row := ⟨h.os, h.tape, h.output, h.size, h.block⟩
theorem report_lit (k c : Int) (b : Nat) (g : Option Nat) (w : World) (p : PS) (l : List EV) (h : Dec X b g w p l) (hs : l.length ≤ 90000) :
    Calls Tryz.prog 62 #[.pointer (some ⟨b, 0, none⟩), .agg #[.int .i64 k, .int .i64 c, .int .u8 0, .int .u8 0, .slice none 0 0, .string ⟨#[]⟩, .string ⟨#[]⟩]] w (Did X b g w (p, [⟨k, c, 0, 0, [], nos, nos⟩]) l) :=
  report_any b g w p l ⟨k, c, 0, 0, [], nos, nos⟩ none 0 0 h (RLx.nil _ _ _) hs
set_option maxRecDepth 100000 in
set_option maxHeartbeats 2000000 in
theorem print_any (c : UInt8) (b : Nat) (g : Option Nat) (w : World) (p : PS) (l : List EV) (h : Dec X b g w p l) (hs : l.length ≤ 90000) :
    Calls Tryz.prog 77 #[.pointer (some ⟨b, 0, none⟩), .int .u8 (c.toNat : Int)] w (Did X b g w (p, [prE c.toNat]) l) := by
  have HC := Lib.hid (report_lit 1 c.toNat b g w p l h hs)
  have hc := c.toNat_lt
  clear h hs
  go_enter Tryz.func77, Tryz.ntmps77
  go_wp2_with (go_at_call 62; refine HC.out.mono ?_; rintro e w1 ⟨rfl, hd⟩; have HD := Lib.hid hd; clear hd)
  go_end0
  exact ⟨rfl, HD.out⟩
set_option maxRecDepth 100000 in
set_option maxHeartbeats 2000000 in
theorem inString_any (b : Nat) (g : Option Nat) (w : World) (p : PS) (l : List EV) (h : Dec X b g w p l) :
    Calls Tryz.prog 59 #[.pointer (some ⟨b, 0, none⟩)] w fun e w' => e = .returned (.bool (strB p.st)) ∧ w = w' := by
  obtain ⟨u, q, v, xs, hx, hv, hl, hg, hu, hq, hxs, hX⟩ := h
  have c0 := hx.cell 0 _ rfl
  have HX := Lib.hid hx
  have HL := Lib.hid hl
  have HG := Lib.hid hg
  have HV := Lib.hid hv
  have HXS := Lib.hid hxs
  have HXX := Lib.hid hX
  have HU := Lib.hid hu
  have HQ := Lib.hid hq
  clear hl hg hx hv hxs hu hq hX
  obtain ⟨n, hn⟩ : ∃ n, n = p.st := ⟨_, rfl⟩
  rw [← hn] at c0 ⊢
  clear hn
  have hb : strB n = ((n == 6) || (n == 7) || (n == 11) || (n == 12) || (n == 13) || (n == 14)) := rfl
  rw [hb]
  clear hb HX HL HG HV HXS HU HQ
  go_enter Tryz.func59, Tryz.ntmps59
  go_wp2
  all_goals
    go_ret
    refine ⟨?_, rfl⟩
    simp_all
set_option maxRecDepth 100000 in
set_option maxHeartbeats 2000000 in
theorem escape6_any (b : Nat) (g : Option Nat) (w : World) (p : PS) (l : List EV) (h : Dec X b g w p l) (h0 : 0 ≤ p.st) (h1 : p.st ≤ 100) :
    Calls Tryz.prog 58 #[.pointer (some ⟨b, 0, none⟩)] w (Did X b g w (if p.st = 6 ∨ p.st = 11 ∨ p.st = 13 then ({ p with st := p.st + 1 }, []) else (begS 1, [])) l) := by
  have HC := Lib.hid (enter_any b g w p l 1 h)
  obtain ⟨u, q, v, xs, hx, hv, hl, hg, hu, hq, hxs, hX⟩ := h
  have c0 := hx.cell 0 _ rfl
  have f0 := hx.free 0 (by show 0 < 9; decide)
  have HX := Lib.hid hx
  have HL := Lib.hid hl
  have HG := Lib.hid hg
  have HV := Lib.hid hv
  have HXS := Lib.hid hxs
  have HXX := Lib.hid hX
  have HU := Lib.hid hu
  have HQ := Lib.hid hq
  clear hl hg hx hv hxs hu hq hX
  obtain ⟨n, hn⟩ : ∃ n, n = p.st := ⟨_, rfl⟩
  rw [← hn] at c0 h0 h1 ⊢
  have HN := Lib.hid hn
  clear hn
  by_cases k : n = 6 ∨ n = 11 ∨ n = 13
  · rw [if_pos k]
    rcases k with k | k | k
    all_goals
      subst k
      go_enter Tryz.func58, Tryz.ntmps58
      go_wp2
      go_end0
      exact Did.of (Dec.put HXX.out HV.out HL.out HG.out HXS.out HX.out.1 (grown_set _ b 0 _) (Box.set HX.out 0 _) HU.out HQ.out)
  · rw [if_neg k]
    have k1 : (n == 6) = false := by simp; omega
    have k2 : (n == 11) = false := by simp; omega
    have k3 : (n == 13) = false := by simp; omega
    go_enter Tryz.func58, Tryz.ntmps58
    go_wp2_with (go_at_call 57; refine HC.out.mono ?_; rintro e w1 ⟨rfl, hd⟩; have HD := Lib.hid hd; clear hd)
    go_end0
    exact ⟨rfl, HD.out⟩
set_option maxRecDepth 100000 in
set_option maxHeartbeats 2000000 in
theorem addInter_any (c : UInt8) (b : Nat) (g : Option Nat) (w : World) (p : PS) (l : List EV) (h : Dec X b g w p l) (hi : p.it.size ≤ 1000000) :
    Calls Tryz.prog 96 #[.pointer (some ⟨b, 0, none⟩), .int .u8 (c.toNat : Int)] w (Did X b g w (addD p c, []) l) := by
  have HC := Lib.hid (spoil_any b g w p l h)
  obtain ⟨u, q, v, xs, hx, hv, hl, hg, hu, hq, hxs, hX⟩ := h
  have c5 := hx.cell 5 _ rfl
  have f5 := hx.free 5 (by show 5 < 9; decide)
  have HX := Lib.hid hx
  have HL := Lib.hid hl
  have HG := Lib.hid hg
  have HV := Lib.hid hv
  have HXS := Lib.hid hxs
  have HXX := Lib.hid hX
  have HU := Lib.hid hu
  have HQ := Lib.hid hq
  clear hl hg hx hv hxs hu hq hX
  unfold addD
  by_cases k : p.it.size = 2
  · rw [if_pos k]
    have k1 : ((p.it.size : Int) == 2) = true := by simp; omega
    go_enter Tryz.func96, Tryz.ntmps96
    go_wp2_with (go_at_call 63; refine HC.out.mono ?_; rintro e w1 ⟨rfl, hd⟩; have HD := Lib.hid hd; clear hd)
    go_end0
    exact ⟨rfl, HD.out⟩
  · rw [if_neg k]
    have k1 : ((p.it.size : Int) == 2) = false := by simp; omega
    have hbs := HX.out.1
    have hcv := str1d w c 5
    have hsz : (bs1 c).size = 1 := rfl
    have hlen : ¬ 9223372036854775807 < p.it.size + 1 := by omega
    generalize bs1 c = B at hcv hsz ⊢
    clear HC
    go_enter Tryz.func96, Tryz.ntmps96
    go_wp2_with fail
    go_region
    go_end0
    exact Did.of (Dec.put HXX.out HV.out HL.out HG.out HXS.out hbs (grown_drew ((grown_set _ b 5 _).trans (World.grownBy_alloc _ _ (some b)))) ((Box.set HX.out 5 _).alloc _).drew HU.out HQ.out)
set_option maxRecDepth 100000 in
set_option maxHeartbeats 2000000 in
theorem text_any7 (c : UInt8) (b : Nat) (g : Option Nat) (w : World) (p : PS) (l : List EV) (h : Dec X b g w p l) (hi : p.tx.size ≤ 1000000) :
    Calls Tryz.prog 85 #[.pointer (some ⟨b, 0, none⟩), .int .u8 (c.toNat : Int)] w (Did X b g w (texD p c, []) l) := by
  have HC := Lib.hid (spoil_any b g w p l h)
  have HH := Lib.hid h
  obtain ⟨u, q, v, xs, hx, hv, hl, hg, hu, hq, hxs, hX⟩ := h
  have c6 := hx.cell 6 _ rfl
  have f6 := hx.free 6 (by show 6 < 9; decide)
  have HX := Lib.hid hx
  have HL := Lib.hid hl
  have HG := Lib.hid hg
  have HV := Lib.hid hv
  have HXS := Lib.hid hxs
  have HXX := Lib.hid hX
  have HU := Lib.hid hu
  have HQ := Lib.hid hq
  clear hl hg hx hv hxs hu hq hX
  unfold texD
  obtain ⟨t, ht⟩ : ∃ t, textB c = t := ⟨_, rfl⟩
  have HT := Lib.hid ht
  rw [ht]
  clear ht
  cases t with
  | false =>
    rw [if_neg (by decide)]
    go_enter Tryz.func85, Tryz.ntmps85
    go_wp2_with (go_at_call 41; refine (isText_any c _).mono ?_; rintro e w1 ⟨rfl, rfl⟩; rw [HT.out])
    go_end0
    exact Did.of ⟨HH.out, Frm.refl _⟩
  | true =>
    rw [if_pos rfl]
    by_cases k : p.tx.size = 512
    · rw [if_pos k]
      have k1 : ((p.tx.size : Int) == 512) = true := by simp; omega
      go_enter Tryz.func85, Tryz.ntmps85
      go_wp2_with (first
        | (go_at_call 41; refine (isText_any c _).mono ?_; rintro e w1 ⟨rfl, rfl⟩; rw [HT.out])
        | (go_at_call 63; refine HC.out.mono ?_; rintro e w1 ⟨rfl, hd⟩; have HD := Lib.hid hd; clear hd))
      go_end0
      exact ⟨rfl, HD.out⟩
    · rw [if_neg k]
      have k1 : ((p.tx.size : Int) == 512) = false := by simp; omega
      have hbs := HX.out.1
      have hcv := str1d w c 5
      have hsz : (bs1 c).size = 1 := rfl
      have hlen : ¬ 9223372036854775807 < p.tx.size + 1 := by omega
      generalize bs1 c = B at hcv hsz ⊢
      clear HC
      go_enter Tryz.func85, Tryz.ntmps85
      go_wp2_with (go_at_call 41; refine (isText_any c _).mono ?_; rintro e w1 ⟨rfl, rfl⟩; rw [HT.out])
      go_region
      go_end0
      exact Did.of (Dec.put HXX.out HV.out HL.out HG.out HXS.out hbs (grown_drew ((grown_set _ b 6 _).trans (World.grownBy_alloc _ _ (some b)))) ((Box.set HX.out 6 _).alloc _).drew HU.out HQ.out)
theorem Dec.drew {b : Nat} {g : Option Nat} {w : World} {p : PS} {l : List EV} (h : Dec X b g w p l) : Dec X b g w.drew p l := h.below ((Below.refl _ _).drew)
theorem Frm.drew (b : Nat) (g : Option Nat) (w : World) : Frm b g g w w.drew := ⟨(Below.refl _ _).drew, ⟨Nat.le_refl _, fun _ _ _ _ => rfl⟩, .inl rfl⟩
set_option maxRecDepth 100000 in
set_option maxHeartbeats 2000000 in
theorem dispatch_any (k : Int) (fi : UInt8) (b : Nat) (g : Option Nat) (w : World) (p : PS) (l : List EV) (h : Dec X b g w p l) (hs : l.length ≤ 90000) :
    Calls Tryz.prog 97 #[.pointer (some ⟨b, 0, none⟩), .int .i64 k, .int .u8 (fi.toNat : Int)] w (Did X b g w (dspD p k fi) l) := by
  have HC := Lib.hid (enter_any b g w p l 0 h)
  have HH := Lib.hid h
  obtain ⟨u, q, v, xs, hx, hv, hl, hg, hu, hq, hxs, hX⟩ := h
  have c2 := hx.cell 2 _ rfl
  have c4 := hx.cell 4 _ rfl
  have c5 := hx.cell 5 _ rfl
  have c6 := hx.cell 6 _ rfl
  have c7 := hx.cell 7 _ rfl
  have HX := Lib.hid hx
  have HL := Lib.hid hl
  have HG := Lib.hid hg
  have HV := Lib.hid hv
  have HXS := Lib.hid hxs
  have HXX := Lib.hid hX
  have HU := Lib.hid hu
  have HQ := Lib.hid hq
  clear hl hg hx hv hxs hu hq hX
  unfold dspD
  obtain ⟨bad, hbad⟩ : ∃ t, p.bad = t := ⟨_, rfl⟩
  rw [hbad] at c7 ⊢
  cases bad with
  | true =>
    rw [if_pos rfl]
    clear hbad
    go_enter Tryz.func97, Tryz.ntmps97
    go_wp2_with (go_at_call 57; refine HC.out.mono ?_; rintro e w1 ⟨rfl, hd⟩; have HD := Lib.hid hd; clear hd)
    go_end0
    exact ⟨rfl, HD.out⟩
  | false =>
    rw [if_neg (by decide)]
    clear hbad
    obtain ⟨A, n, rfl⟩ := HQ.out.1.form
    obtain ⟨m, hm⟩ : ∃ m, m = p.ps.length := ⟨_, rfl⟩
    have HQ' := HQ
    rw [← hm] at c4 HQ' HX
    clear HQ hm
    have HR := Lib.hid (show Calls Tryz.prog 62 #[.pointer (some ⟨b, 0, none⟩), .agg #[.int .i64 k, .int .i64 0, .int .u8 (p.pr.toNat : Int), .int .u8 (fi.toNat : Int), .slice A m n, .string p.it, .string p.tx]] w.drew (Did X b g w.drew (p, [evD p k fi]) l) from report_any b g w.drew p l (evD p k fi) A m n HH.out.drew (RLx.frm HQ'.out (Frm.drew b g w)) hs)
    have hx2 := HX.out.drew
    have d2 := hx2.cell 2 _ rfl
    have d4 := hx2.cell 4 _ rfl
    have d5 := hx2.cell 5 _ rfl
    have d6 := hx2.cell 6 _ rfl
    have HF := Lib.hid (Frm.drew b g w)
    clear hx2
    go_enter Tryz.func97, Tryz.ntmps97
    go_wp2_with fail
    go_still_tail 24, (by kernel_rfl)
    rename_i K hK
    have HK := Lib.hid hK
    clear hK c2 c4 c5 c6
    change wpList _ _ _ _ _ w.drew
    generalize w.drew = w2 at d2 d4 d5 d6 HF HR ⊢
    go_wp2_with (go_at_call 62; refine HR.out.mono ?_; rintro e w3 ⟨rfl, g1, hd, hf⟩; have HD := Lib.hid hd; have HF3 := Lib.hid hf; clear hd hf)
    refine HK.out _ _ ?_
    clear HK
    have HE := Lib.hid (enter_any b g1 w3 p (l ++ [evD p k fi]) 0 HD.out)
    go_wp2_with (go_at_call 57; refine HE.out.mono ?_; rintro e w4 ⟨rfl, g2, hd, hf⟩; have HD4 := Lib.hid hd; have HF4 := Lib.hid hf; clear hd hf)
    go_end0
    refine ⟨rfl, g2, ?_, (HF.out.trans HF3.out).trans HF4.out⟩
    have := HD4.out
    rwa [List.append_nil] at this
set_option maxRecDepth 100000 in
set_option maxHeartbeats 2000000 in
theorem final_any (c : UInt8) (b : Nat) (g : Option Nat) (w : World) (p : PS) (l : List EV) (h : Dec X b g w p l) (hs : l.length ≤ 90000) :
    Calls Tryz.prog 98 #[.pointer (some ⟨b, 0, none⟩), .int .u8 (c.toNat : Int)] w (Did X b g w (finD p c) l) := by
  have HC := Lib.hid (dispatch_any 4 c b g w p l h hs)
  obtain ⟨u, q, v, xs, hx, hv, hl, hg, hu, hq, hxs, hX⟩ := h
  have c0 := hx.cell 0 _ rfl
  have c3 := hx.cell 3 _ rfl
  have f0 := hx.free 0 (by show 0 < 9; decide)
  have f3 := hx.free 3 (by show 3 < 9; decide)
  have HX := Lib.hid hx
  have HL := Lib.hid hl
  have HG := Lib.hid hg
  have HV := Lib.hid hv
  have HXS := Lib.hid hxs
  have HXX := Lib.hid hX
  have HU := Lib.hid hu
  have HQ := Lib.hid hq
  clear hl hg hx hv hxs hu hq hX
  unfold finD
  obtain ⟨n, hn⟩ : ∃ n, n = p.st := ⟨_, rfl⟩
  rw [← hn] at c0 ⊢
  clear hn
  by_cases k : n ≤ 5
  · rw [if_pos k]
    have k1 : decide (n ≤ 5) = true := decide_eq_true k
    go_enter Tryz.func98, Tryz.ntmps98
    go_wp2_with (go_at_call 97; refine HC.out.mono ?_; rintro e w1 ⟨rfl, hd⟩; have HD := Lib.hid hd; clear hd)
    go_end0
    exact ⟨rfl, HD.out⟩
  · rw [if_neg k]
    have k1 : decide (n ≤ 5) = false := decide_eq_false k
    go_enter Tryz.func98, Tryz.ntmps98
    go_wp2
    go_end0
    exact Did.of (Dec.put HXX.out HV.out HL.out HG.out HXS.out HX.out.1 ((grown_set _ b 0 _).trans (grown_set _ b 3 _)) (Box.set (Box.set HX.out 0 _) 3 _) HU.out HQ.out)
set_option maxRecDepth 100000 in
set_option maxHeartbeats 2000000 in
theorem addParam_any (c : UInt8) (b : Nat) (g : Option Nat) (w : World) (p : PS) (l : List EV) (h : Dec X b g w p l) (hp : Sz p.ps) :
    Calls Tryz.prog 99 #[.pointer (some ⟨b, 0, none⟩), .int .u8 (c.toNat : Int)] w (Did X b g w (parD p c, []) l) := by
  have HH := Lib.hid h
  obtain ⟨u, q, v, xs, hx, hv, hl, hg, hu, hq, hxs, hX⟩ := h
  have c4 := hx.cell 4 _ rfl
  have f4 := hx.free 4 (by show 4 < 9; decide)
  have HX := Lib.hid hx
  have HL := Lib.hid hl
  have HG := Lib.hid hg
  have HV := Lib.hid hv
  have HXS := Lib.hid hxs
  have HXX := Lib.hid hX
  have HU := Lib.hid hu
  have HQ := Lib.hid hq
  clear hl hg hx hv hxs hu hq hX
  have hbs := HX.out.1
  have hgk : ∀ k, g = some k → k < w.heap.size := fun k hk => (OwnV.blk HV.out k (HG.out.trans hk)).2
  have HC := Lib.hid (step_anyP (Off X b g) q p.ps c w HQ.out.1 HQ.out.2.2 (fresh_off HXX.out hbs hgk) hp)
  have HGK := Lib.hid hgk
  clear hgk
  obtain ⟨A, n, rfl⟩ := HQ.out.1.form
  obtain ⟨m, hm⟩ : ∃ m, m = p.ps.length := ⟨_, rfl⟩
  rw [← hm] at c4 HQ HX HC
  clear hm
  unfold parD
  obtain ⟨r, hr⟩ : ∃ r, (stpV p.ps c).2 = r := ⟨_, rfl⟩
  rw [hr] at HC ⊢
  clear hr
  by_cases k : r = 0
  · subst k
    rw [if_neg (by decide)]
    obtain ⟨l', hl'⟩ : ∃ l', (stpV p.ps c).1 = l' := ⟨_, rfl⟩
    rw [hl'] at HC ⊢
    clear hl'
    go_enter Tryz.func99, Tryz.ntmps99
    go_wp2_with (go_at_call 107; refine HC.out.mono ?_; rintro e w1 ⟨v1, rfl, h1, hb1⟩; have hx1 := HX.out.keep hb1; have y4 := hx1.cell 4 _ rfl; have z4 := hx1.free 4 (by show 4 < 9; decide); have HX1 := Lib.hid hx1; clear hx1; obtain ⟨A1, n1, hv1⟩ := h1.1.form; subst hv1; have HB1 := Lib.hid hb1; have H1 := Lib.hid h1; clear h1 hb1; generalize l'.length = m1 at H1 ⊢)
    go_end0
    have hf : Frm b g g w w1 := Frm.of_below HB1.out (Nat.le_of_lt hbs)
    obtain ⟨e1, e2⟩ := Dec.put (p' := { p with ps := l' }) HXX.out (HV.out.keep HB1.out) HL.out HG.out (QEx.frm HXS.out hf) HX1.out.1 (grown_set _ b 4 _) (Box.set HX1.out 4 _) (RBx.frm HU.out hf) (RLx.of_rop H1.out HXX.out hbs HGK.out)
    exact ⟨rfl, g, by rw [List.append_nil]; exact e1, hf.trans e2⟩
  · rw [if_pos k]
    have k1 : (r != (0 : Int)) = true := by simp [k]
    obtain ⟨l', hl'⟩ : ∃ l', (stpV p.ps c).1 = l' := ⟨_, rfl⟩
    rw [hl'] at HC
    clear hl'
    go_enter Tryz.func99, Tryz.ntmps99
    go_wp2_with (first
      | (go_at_call 107; refine HC.out.mono ?_; rintro e w1 ⟨v1, rfl, h1, hb1⟩; obtain ⟨A1, n1, hv1⟩ := h1.1.form; subst hv1; clear h1; have HE := Lib.hid (spoil_any b g w1 p l (HH.out.below hb1)); have HB1 := Lib.hid hb1; clear hb1; generalize l'.length = m1)
      | (go_at_call 63; refine HE.out.mono ?_; rintro e w2 ⟨rfl, g2, hd, hf⟩; have HD := Lib.hid hd; have HF := Lib.hid hf; clear hd hf))
    go_end0
    exact ⟨rfl, g2, HD.out, (Frm.of_below HB1.out (Nat.le_of_lt hbs)).trans HF.out⟩
end Go.Proofs.YtmboekpomjgnnaaGreatDoor.Sta

namespace Go.Proofs.YtmboekpomjgnnaaGreatDoor.Sta
open Go.RowKit Utf Par
variable {X : Nat → Prop}

/-- the sizes and numbers that the methods bear -/
structure Fit (p : PS) : Prop where
  lo : 0 ≤ p.st
  hi : p.st ≤ 100
  it : p.it.size ≤ 1000000
  tx : p.tx.size ≤ 1000000
  ps : Sz p.ps
theorem Fit.of_may {p : PS} (h : mayS p = true) : Fit p := by
  have hs := may_st h
  cases hb : p.bad with
  | true =>
    obtain ⟨e, _⟩ := may_bad h hb
    refine ⟨hs.1, by omega, by rw [e]; show (0 : Nat) ≤ _; omega, by rw [e]; show (0 : Nat) ≤ _; omega, by rw [e]; exact ⟨by show (0 : Nat) ≤ _; omega, by intro x hx; cases hx⟩⟩
  | false =>
    have g := (may_good hb).1 h
    have := g.itm
    have := g.txl
    refine ⟨hs.1, by omega, ?_, by omega, ?_⟩
    · have := g.itm; unfold mostS at this; split at this <;> omega
    · obtain ⟨h1, h2, _⟩ := bad_no g.ps
      exact ⟨by omega, fun x hx => by have := h2 x hx; omega⟩
theorem Did.seq {b : Nat} {g g1 : Option Nat} {w w1 : World} {p1 : PS} {l : List EV} {r : PS × List EV} {e : Ending} {w' : World} (_ : Dec X b g1 w1 p1 l) (hf : Frm b g g1 w w1) (h : Did X b g1 w1 r l e w') : Did X b g w r l e w' := by
  obtain ⟨he, g2, h2, h3⟩ := h
  exact ⟨he, g2, h2, hf.trans h3⟩

set_option maxRecDepth 100000 in
set_option maxHeartbeats 2000000 in
theorem osc_any (c : UInt8) (b : Nat) (g : Option Nat) (w : World) (p : PS) (l : List EV) (h : Dec X b g w p l) (hs : l.length ≤ 90000) (hp : Fit p) :
    Calls Tryz.prog 83 #[.pointer (some ⟨b, 0, none⟩), .int .u8 (c.toNat : Int)] w (Did X b g w (oscD p c) l) := by
  have HC := Lib.hid (show Calls Tryz.prog 97 #[.pointer (some ⟨b, 0, none⟩), .int .i64 5, .int .u8 0] w (Did X b g w (dspD p 5 0) l) from dispatch_any 5 0 b g w p l h hs)
  have HT := Lib.hid (text_any7 c b g w p l h hp.tx)
  clear h hs hp
  unfold oscD
  by_cases k : c.toNat = 7
  · rw [if_pos k]
    have k1 : ((c.toNat : Int) == 7) = true := by simp; omega
    go_enter Tryz.func83, Tryz.ntmps83
    go_wp2_with (go_at_call 97; refine HC.out.mono ?_; rintro e w1 ⟨rfl, hd⟩; have HD := Lib.hid hd; clear hd)
    go_end0
    exact ⟨rfl, HD.out⟩
  · rw [if_neg k]
    have k1 : ((c.toNat : Int) == 7) = false := by simp; omega
    go_enter Tryz.func83, Tryz.ntmps83
    go_wp2_with (go_at_call 85; refine HT.out.mono ?_; rintro e w1 ⟨rfl, hd⟩; have HD := Lib.hid hd; clear hd)
    go_end0
    exact ⟨rfl, HD.out⟩
set_option maxRecDepth 100000 in
set_option maxHeartbeats 2000000 in
theorem sign_any (c : UInt8) (b : Nat) (g : Option Nat) (w : World) (p : PS) (l : List EV) (h : Dec X b g w p l) (hs : l.length ≤ 90000) (hp : Fit p) :
    Calls Tryz.prog 79 #[.pointer (some ⟨b, 0, none⟩), .int .u8 (c.toNat : Int)] w (Did X b g w (sgnD p c) l) := by
  have HC := Lib.hid (dispatch_any 3 c b g w p l h hs)
  have HA := Lib.hid (addInter_any c b g w p l h hp.it)
  clear h hs hp
  unfold sgnD
  obtain ⟨t, ht⟩ : ∃ t, signB c = t := ⟨_, rfl⟩
  have HT := Lib.hid ht
  rw [ht]
  clear ht
  cases t
  · rw [if_neg (by decide)]
    go_enter Tryz.func79, Tryz.ntmps79
    go_wp2_with (first
      | (go_at_call 39; refine (isSign_any c _).mono ?_; rintro e w1 ⟨rfl, rfl⟩; rw [HT.out])
      | (go_at_call 97; refine HC.out.mono ?_; rintro e w1 ⟨rfl, hd⟩; have HD := Lib.hid hd; clear hd))
    go_end0
    exact ⟨rfl, HD.out⟩
  · rw [if_pos rfl]
    go_enter Tryz.func79, Tryz.ntmps79
    go_wp2_with (first
      | (go_at_call 39; refine (isSign_any c _).mono ?_; rintro e w1 ⟨rfl, rfl⟩; rw [HT.out])
      | (go_at_call 96; refine HA.out.mono ?_; rintro e w1 ⟨rfl, hd⟩; have HD := Lib.hid hd; clear hd))
    go_end0
    exact ⟨rfl, HD.out⟩
set_option maxRecDepth 100000 in
set_option maxHeartbeats 2000000 in
theorem inter_any (c : UInt8) (b : Nat) (g : Option Nat) (w : World) (p : PS) (l : List EV) (h : Dec X b g w p l) (hs : l.length ≤ 90000) (hp : Fit p) :
    Calls Tryz.prog 82 #[.pointer (some ⟨b, 0, none⟩), .int .u8 (c.toNat : Int)] w (Did X b g w (intD p c) l) := by
  have HF := Lib.hid (final_any c b g w p l h hs)
  have HA := Lib.hid (addInter_any c b g w p l h hp.it)
  have HP := Lib.hid (spoil_any b g w p l h)
  clear h hs hp
  unfold intD
  obtain ⟨t, ht⟩ : ∃ t, signB c = t := ⟨_, rfl⟩
  have HT := Lib.hid ht
  obtain ⟨s, hs⟩ : ∃ s, finlB c = s := ⟨_, rfl⟩
  have HS := Lib.hid hs
  rw [ht, hs]
  clear ht hs
  cases t <;> cases s
  · rw [if_neg (by decide), if_neg (by decide)]
    go_enter Tryz.func82, Tryz.ntmps82
    go_wp2_with (first
      | (go_at_call 39; refine (isSign_any c _).mono ?_; rintro e w1 ⟨rfl, rfl⟩; rw [HT.out])
      | (go_at_call 40; refine (isFinal_any c _).mono ?_; rintro e w1 ⟨rfl, rfl⟩; rw [HS.out])
      | (go_at_call 63; refine HP.out.mono ?_; rintro e w1 ⟨rfl, hd⟩; have HD := Lib.hid hd; clear hd))
    go_end0
    exact ⟨rfl, HD.out⟩
  · rw [if_neg (by decide), if_pos rfl]
    go_enter Tryz.func82, Tryz.ntmps82
    go_wp2_with (first
      | (go_at_call 39; refine (isSign_any c _).mono ?_; rintro e w1 ⟨rfl, rfl⟩; rw [HT.out])
      | (go_at_call 40; refine (isFinal_any c _).mono ?_; rintro e w1 ⟨rfl, rfl⟩; rw [HS.out])
      | (go_at_call 98; refine HF.out.mono ?_; rintro e w1 ⟨rfl, hd⟩; have HD := Lib.hid hd; clear hd))
    go_end0
    exact ⟨rfl, HD.out⟩
  all_goals
    rw [if_pos rfl]
    go_enter Tryz.func82, Tryz.ntmps82
    go_wp2_with (first
      | (go_at_call 39; refine (isSign_any c _).mono ?_; rintro e w1 ⟨rfl, rfl⟩; rw [HT.out])
      | (go_at_call 96; refine HA.out.mono ?_; rintro e w1 ⟨rfl, hd⟩; have HD := Lib.hid hd; clear hd))
    go_end0
    exact ⟨rfl, HD.out⟩
set_option maxRecDepth 100000 in
set_option maxHeartbeats 2000000 in
theorem param_any (c : UInt8) (b : Nat) (g : Option Nat) (w : World) (p : PS) (l : List EV) (h : Dec X b g w p l) (hs : l.length ≤ 90000) (hp : Fit p) :
    Calls Tryz.prog 81 #[.pointer (some ⟨b, 0, none⟩), .int .u8 (c.toNat : Int)] w (Did X b g w (parmD p c) l) := by
  have HF := Lib.hid (final_any c b g w p l h hs)
  have HP := Lib.hid (spoil_any b g w p l h)
  have HR := Lib.hid (addParam_any c b g w p l h hp.ps)
  obtain ⟨u, q, v, xs, hx, hv, hl, hg, hu, hq, hxs, hX⟩ := h
  have c0 := hx.cell 0 _ rfl
  have f0 := hx.free 0 (by show 0 < 9; decide)
  have HX := Lib.hid hx
  have HL := Lib.hid hl
  have HG := Lib.hid hg
  have HV := Lib.hid hv
  have HXS := Lib.hid hxs
  have HXX := Lib.hid hX
  have HU := Lib.hid hu
  have HQ := Lib.hid hq
  clear hl hg hx hv hxs hu hq hX
  have hbs := HX.out.1
  have hput := Dec.put (p' := { p with st := p.st + 1 }) HXX.out HV.out HL.out HG.out HXS.out hbs (grown_set w b 0 (.int .i64 (p.st + 1))) (Box.set HX.out 0 _) HU.out HQ.out
  have HA := Lib.hid ((addInter_any c b g _ { p with st := p.st + 1 } l hput.1 hp.it).mono (fun _ _ hd => Did.seq (w := w) hput.1 hput.2 hd))
  have h0 := hp.lo
  have h1 := hp.hi
  clear hput hs hp
  unfold parmD
  obtain ⟨n, hn⟩ : ∃ n, n = p.st := ⟨_, rfl⟩
  rw [← hn] at c0 h0 h1 HA HP ⊢
  clear hn
  obtain ⟨t, ht⟩ : ∃ t, signB c = t := ⟨_, rfl⟩
  have HT := Lib.hid ht
  obtain ⟨s, hs⟩ : ∃ s, privB c = s := ⟨_, rfl⟩
  have HS := Lib.hid hs
  obtain ⟨f, hf⟩ : ∃ f, finlB c = f := ⟨_, rfl⟩
  have HFF := Lib.hid hf
  rw [ht, hs, hf]
  clear ht hs hf
  cases t
  · rw [if_neg (by decide)]
    cases s
    · rw [if_neg (by decide)]
      cases f
      · rw [if_neg (by decide)]
        go_enter Tryz.func81, Tryz.ntmps81
        go_wp2_with (first
          | (go_at_call 39; refine (isSign_any c _).mono ?_; rintro e w1 ⟨rfl, rfl⟩; rw [HT.out])
          | (go_at_call 36; refine (isPrivate_any c _).mono ?_; rintro e w1 ⟨rfl, rfl⟩; rw [HS.out])
          | (go_at_call 40; refine (isFinal_any c _).mono ?_; rintro e w1 ⟨rfl, rfl⟩; rw [HFF.out])
          | (go_at_call 99; refine HR.out.mono ?_; rintro e w1 ⟨rfl, hd⟩; have HD := Lib.hid hd; clear hd))
        go_end0
        exact ⟨rfl, HD.out⟩
      · rw [if_pos rfl]
        go_enter Tryz.func81, Tryz.ntmps81
        go_wp2_with (first
          | (go_at_call 39; refine (isSign_any c _).mono ?_; rintro e w1 ⟨rfl, rfl⟩; rw [HT.out])
          | (go_at_call 36; refine (isPrivate_any c _).mono ?_; rintro e w1 ⟨rfl, rfl⟩; rw [HS.out])
          | (go_at_call 40; refine (isFinal_any c _).mono ?_; rintro e w1 ⟨rfl, rfl⟩; rw [HFF.out])
          | (go_at_call 98; refine HF.out.mono ?_; rintro e w1 ⟨rfl, hd⟩; have HD := Lib.hid hd; clear hd))
        go_end0
        exact ⟨rfl, HD.out⟩
    · rw [if_pos rfl]
      go_enter Tryz.func81, Tryz.ntmps81
      go_wp2_with (first
        | (go_at_call 39; refine (isSign_any c _).mono ?_; rintro e w1 ⟨rfl, rfl⟩; rw [HT.out])
        | (go_at_call 36; refine (isPrivate_any c _).mono ?_; rintro e w1 ⟨rfl, rfl⟩; rw [HS.out])
        | (go_at_call 63; refine HP.out.mono ?_; rintro e w1 ⟨rfl, hd⟩; have HD := Lib.hid hd; clear hd))
      go_end0
      exact ⟨rfl, HD.out⟩
  · rw [if_pos rfl]
    go_enter Tryz.func81, Tryz.ntmps81
    go_wp2_with (first
      | (go_at_call 39; refine (isSign_any c _).mono ?_; rintro e w1 ⟨rfl, rfl⟩; rw [HT.out])
      | (go_at_call 96; refine HA.out.mono ?_; rintro e w1 ⟨rfl, hd⟩; have HD := Lib.hid hd; clear hd))
    go_end0
    exact ⟨rfl, HD.out⟩
set_option maxRecDepth 100000 in
set_option maxHeartbeats 2000000 in
theorem entry_any (c : UInt8) (b : Nat) (g : Option Nat) (w : World) (p : PS) (l : List EV) (h : Dec X b g w p l) (hs : l.length ≤ 90000) (hp : Fit p) (hp2 : p.st ≤ 50) :
    Calls Tryz.prog 80 #[.pointer (some ⟨b, 0, none⟩), .int .u8 (c.toNat : Int)] w (Did X b g w (entD p c) l) := by
  obtain ⟨u, q, v, xs, hx, hv, hl, hg, hu, hq, hxs, hX⟩ := h
  have c0 := hx.cell 0 _ rfl
  have c2 := hx.cell 2 _ rfl
  have f0 := hx.free 0 (by show 0 < 9; decide)
  have f2 := hx.free 2 (by show 2 < 9; decide)
  have HX := Lib.hid hx
  have HL := Lib.hid hl
  have HG := Lib.hid hg
  have HV := Lib.hid hv
  have HXS := Lib.hid hxs
  have HXX := Lib.hid hX
  have HU := Lib.hid hu
  have HQ := Lib.hid hq
  clear hl hg hx hv hxs hu hq hX
  have hbs := HX.out.1
  have hput := Dec.put (p' := { p with st := p.st + 1 }) HXX.out HV.out HL.out HG.out HXS.out hbs (grown_set w b 0 (.int .i64 (p.st + 1))) (Box.set HX.out 0 _) HU.out HQ.out
  have hput2 := Dec.put (p' := { p with st := p.st + 1, pr := c }) HXX.out HV.out HL.out HG.out HXS.out hbs ((grown_set w b 0 (.int .i64 (p.st + 1))).trans (grown_set _ b 2 (.int .u8 (c.toNat : Int)))) (Box.set (Box.set HX.out 0 _) 2 _) HU.out HQ.out
  have HA := Lib.hid ((param_any c b g _ { p with st := p.st + 1 } l hput.1 hs ⟨by have := hp.lo; show 0 ≤ p.st + 1; omega, by show p.st + 1 ≤ 100; omega, hp.it, hp.tx, hp.ps⟩).mono (fun _ _ hd => Did.seq (w := w) hput.1 hput.2 hd))
  have HP2 := Lib.hid hput2
  have h0 := hp.lo
  have h1 := hp.hi
  clear hput hput2 hs hp hp2
  unfold entD
  obtain ⟨n, hn⟩ : ∃ n, n = p.st := ⟨_, rfl⟩
  rw [← hn] at c0 h0 h1 HA HP2 ⊢
  clear hn
  obtain ⟨s, hs⟩ : ∃ s, privB c = s := ⟨_, rfl⟩
  have HS := Lib.hid hs
  rw [hs]
  clear hs
  cases s
  · rw [if_neg (by decide)]
    go_enter Tryz.func80, Tryz.ntmps80
    go_wp2_with (first
      | (go_at_call 36; refine (isPrivate_any c _).mono ?_; rintro e w1 ⟨rfl, rfl⟩; rw [HS.out])
      | (go_at_call 81; refine HA.out.mono ?_; rintro e w1 ⟨rfl, hd⟩; have HD := Lib.hid hd; clear hd))
    go_end0
    exact ⟨rfl, HD.out⟩
  · rw [if_pos rfl]
    go_enter Tryz.func80, Tryz.ntmps80
    go_wp2_with (go_at_call 36; refine (isPrivate_any c _).mono ?_; rintro e w1 ⟨rfl, rfl⟩; rw [HS.out])
    go_end0
    exact Did.of HP2.out
set_option maxRecDepth 100000 in
set_option maxHeartbeats 2000000 in
theorem ignore_any (c : UInt8) (b : Nat) (g : Option Nat) (w : World) (p : PS) (l : List EV) (h : Dec X b g w p l) :
    Calls Tryz.prog 86 #[.pointer (some ⟨b, 0, none⟩), .int .u8 (c.toNat : Int)] w (Did X b g w (p, []) l) := by
  have HH := Lib.hid h
  clear h
  go_enter Tryz.func86, Tryz.ntmps86
  go_wp2
  go_end0
  exact Did.of ⟨HH.out, Frm.refl _⟩
end Go.Proofs.YtmboekpomjgnnaaGreatDoor.Sta

namespace Go.Proofs.YtmboekpomjgnnaaGreatDoor.Sta
open Go.RowKit Utf Par
variable {X : Nat → Prop}

set_option maxRecDepth 100000 in
set_option maxHeartbeats 2000000 in
theorem escaped_any (c : UInt8) (b : Nat) (g : Option Nat) (w : World) (p : PS) (l : List EV) (h : Dec X b g w p l) (hs : l.length ≤ 90000) :
    Calls Tryz.prog 78 #[.pointer (some ⟨b, 0, none⟩), .int .u8 (c.toNat : Int)] w (Did X b g w (escD p c) l) := by
  have HC := Lib.hid (dispatch_any 3 c b g w p l h hs)
  have HH := Lib.hid h
  clear h hs
  unfold escD
  obtain ⟨t, ht⟩ : ∃ t, signB c = t := ⟨_, rfl⟩
  have HT := Lib.hid ht
  rw [ht]
  clear ht
  cases t
  case true =>
    rw [if_pos rfl]
    go_enter Tryz.func78, Tryz.ntmps78
    go_wp2_with (first
      | (go_at_call 39; refine (isSign_any c _).mono ?_; rintro e w1 ⟨rfl, rfl⟩; rw [HT.out])
      | (go_at_call 57; refine (enter_any b g w p l _ HH.out).mono ?_; rintro e w1 ⟨rfl, g1, hd, hf⟩; have HA := Lib.hid ((addInter_any c b g1 w1 (begS 2) _ hd (by show (0 : Nat) ≤ _; omega)).mono (fun _ _ x => Did.seq (w := w) hd hf x)); clear hd hf)
      | (go_at_call 96; refine HA.out.mono ?_; rintro e w2 ⟨rfl, hd⟩; have HD := Lib.hid hd; clear hd))
    go_end0
    have hD := HD.out
    rw [List.append_nil] at hD
    exact ⟨rfl, hD⟩
  rw [if_neg (by decide)]
  have HSG := Lib.hid (show Calls Tryz.prog 39 #[.int .u8 (c.toNat : Int)] w fun e w' => e = .returned (.bool false) ∧ w = w' from (isSign_any c w).mono fun e w' ⟨h1, h2⟩ => ⟨by rw [h1, HT.out], h2⟩)
  by_cases h91 : c.toNat = 91
  · rw [if_pos h91]
    have e91 : (c.toNat : Int) = 91 := by omega
    rw [e91] at HSG ⊢
    clear e91 HT
    go_enter Tryz.func78, Tryz.ntmps78
    go_wp2_with (first
      | (go_at_call 39; refine HSG.out.mono ?_; rintro e w1 ⟨rfl, rfl⟩)
      | (go_at_call 57; refine (enter_any b g w p l _ HH.out).mono ?_; rintro e w1 ⟨rfl, hd⟩; have HD := Lib.hid hd; clear hd))
    go_end0
    exact ⟨rfl, HD.out⟩
  rw [if_neg h91]
  by_cases h93 : c.toNat = 93
  · rw [if_pos h93]
    have e93 : (c.toNat : Int) = 93 := by omega
    rw [e93] at HSG ⊢
    clear e93 HT
    go_enter Tryz.func78, Tryz.ntmps78
    go_wp2_with (first
      | (go_at_call 39; refine HSG.out.mono ?_; rintro e w1 ⟨rfl, rfl⟩)
      | (go_at_call 57; refine (enter_any b g w p l _ HH.out).mono ?_; rintro e w1 ⟨rfl, hd⟩; have HD := Lib.hid hd; clear hd))
    go_end0
    exact ⟨rfl, HD.out⟩
  rw [if_neg h93]
  by_cases h80 : c.toNat = 80
  · rw [if_pos h80]
    have e80 : (c.toNat : Int) = 80 := by omega
    rw [e80] at HSG ⊢
    clear e80 HT
    go_enter Tryz.func78, Tryz.ntmps78
    go_wp2_with (first
      | (go_at_call 39; refine HSG.out.mono ?_; rintro e w1 ⟨rfl, rfl⟩)
      | (go_at_call 57; refine (enter_any b g w p l _ HH.out).mono ?_; rintro e w1 ⟨rfl, hd⟩; have HD := Lib.hid hd; clear hd))
    go_end0
    exact ⟨rfl, HD.out⟩
  rw [if_neg h80]
  by_cases hx : c.toNat = 88 ∨ c.toNat = 94 ∨ c.toNat = 95
  · rw [if_pos hx]
    rcases hx with h | h | h
    · have e88 : (c.toNat : Int) = 88 := by omega
      rw [e88] at HSG ⊢
      clear e88 HT
      go_enter Tryz.func78, Tryz.ntmps78
      go_wp2_with (first
        | (go_at_call 39; refine HSG.out.mono ?_; rintro e w1 ⟨rfl, rfl⟩)
        | (go_at_call 57; refine (enter_any b g w p l _ HH.out).mono ?_; rintro e w1 ⟨rfl, hd⟩; have HD := Lib.hid hd; clear hd))
      go_end0
      exact ⟨rfl, HD.out⟩
    · have e94 : (c.toNat : Int) = 94 := by omega
      rw [e94] at HSG ⊢
      clear e94 HT
      go_enter Tryz.func78, Tryz.ntmps78
      go_wp2_with (first
        | (go_at_call 39; refine HSG.out.mono ?_; rintro e w1 ⟨rfl, rfl⟩)
        | (go_at_call 57; refine (enter_any b g w p l _ HH.out).mono ?_; rintro e w1 ⟨rfl, hd⟩; have HD := Lib.hid hd; clear hd))
      go_end0
      exact ⟨rfl, HD.out⟩
    · have e95 : (c.toNat : Int) = 95 := by omega
      rw [e95] at HSG ⊢
      clear e95 HT
      go_enter Tryz.func78, Tryz.ntmps78
      go_wp2_with (first
        | (go_at_call 39; refine HSG.out.mono ?_; rintro e w1 ⟨rfl, rfl⟩)
        | (go_at_call 57; refine (enter_any b g w p l _ HH.out).mono ?_; rintro e w1 ⟨rfl, hd⟩; have HD := Lib.hid hd; clear hd))
      go_end0
      exact ⟨rfl, HD.out⟩
  · rw [if_neg hx]
    have d91 : ((c.toNat : Int) == 91) = false := by simp; omega
    have d93 : ((c.toNat : Int) == 93) = false := by simp; omega
    have d80 : ((c.toNat : Int) == 80) = false := by simp; omega
    have d88 : ((c.toNat : Int) == 88) = false := by simp; omega
    have d94 : ((c.toNat : Int) == 94) = false := by simp; omega
    have d95 : ((c.toNat : Int) == 95) = false := by simp; omega
    go_enter Tryz.func78, Tryz.ntmps78
    go_wp2_with (first
      | (go_at_call 39; refine (isSign_any c _).mono ?_; rintro e w1 ⟨rfl, rfl⟩; rw [HT.out])
      | (go_at_call 97; refine HC.out.mono ?_; rintro e w1 ⟨rfl, hd⟩; have HD := Lib.hid hd; clear hd))
    go_end0
    exact ⟨rfl, HD.out⟩
/-- what rules hands back -/
def rulA : Array Value := #[.func (.func 77) #[] #[], .func (.func 78) #[] #[], .func (.func 79) #[] #[], .func (.func 80) #[] #[], .func (.func 81) #[] #[], .func (.func 82) #[] #[], .func (.func 83) #[] #[], .func (.func 84) #[] #[], .func (.func 80) #[] #[], .func (.func 81) #[] #[], .func (.func 82) #[] #[], .func (.func 85) #[] #[], .func (.func 84) #[] #[], .func (.func 86) #[] #[], .func (.func 84) #[] #[]]
def rulV : Value := .agg rulA
theorem below_setCells {B : Nat} {a : World} (b : Nat) : ∀ (vs : List Value) (o : Nat) (w : World), Below B a w → B ≤ b → Below B a (w.setCells b o vs)
  | [], _, _, h, _ => h
  | v :: r, o, w, h, hb => by rw [World.setCells]; exact below_setCells b r _ _ (h.setCell (p := ⟨b, o, none⟩) hb v) hb
theorem szR : (Tryz.prog.info? 82).map (·.size) = some rulA.size := by kernel_rfl
theorem rulA_one : rulA.all (·.oneCell') = true := by decide +kernel
set_option maxRecDepth 100000 in
set_option maxHeartbeats 2000000 in
theorem rules_any (w : World) : Calls Tryz.prog 61 #[] w fun e w' => e = .returned rulV ∧ Below w.heap.size w w' := by
  go_enter Tryz.func61, Tryz.ntmps61
  go_wp2_with ((with_reducible refine wpList_store_mid rfl 82 (.tmp 0) (.tmp 1) rfl w.heap.size 0 rulA rfl rfl ?ht szR rulA_one ?_); (case ht => exact (Box.new w #[Value.nilFunc, Value.nilFunc, Value.nilFunc, Value.nilFunc, Value.nilFunc, Value.nilFunc, Value.nilFunc, Value.nilFunc, Value.nilFunc, Value.nilFunc, Value.nilFunc, Value.nilFunc, Value.nilFunc, Value.nilFunc, Value.nilFunc] 82).2.2))
  refine bodyPost_ret (ret_cell1 rfl _ _ ⟨w.heap.size, 0, none⟩ rulV rfl ?_) rfl ?_
  · exact (run_loadVar_mid _ w.heap.size 0 82 rulA.toList _ (World.rangeAt_setCells_same _ _ _ _ (Box.new w #[Value.nilFunc, Value.nilFunc, Value.nilFunc, Value.nilFunc, Value.nilFunc, Value.nilFunc, Value.nilFunc, Value.nilFunc, Value.nilFunc, Value.nilFunc, Value.nilFunc, Value.nilFunc, Value.nilFunc, Value.nilFunc, Value.nilFunc] 82).2.2) Tryz.underlying82 rfl (by kernel_rfl)).trans rfl
  · exact ⟨rfl, below_setCells _ _ _ _ (below_box _ _) (Nat.le_refl _)⟩
end Go.Proofs.YtmboekpomjgnnaaGreatDoor.Sta
