/-
  The walk of the law SgrSound.
-/
import Derived.Test.YtdgainaeaabieaaDoorN26
import Derived.Test.YtdgainaeaabieaaDoorN34
namespace Go.Proofs.YtdgainaeaabieaaDoor.Sgr
open Go.RowKit Utf

theorem okP_err (q : Q4) (h : okQ q = true) : Sty.errP (pP q) = 0 := by
  unfold Sty.errP
  rw [okP_pP, h]
  rfl
theorem chk_pen (q : Q4) (hq : okQ q = true) (w : World) (h : Sty.Tl w) : Calls Tryd.prog 24 #[.agg #[.int .i64 39, .int .i64 q.n, .int .i64 q.m, .int .i64 q.c0, .int .i64 q.c1, .string ⟨#[]⟩]] w fun e w' => e = .returned (.int .i64 0) ∧ Below w.heap.size w w' := by
  have := Sty.checkPen_p (pP q) w h
  rw [okP_err q hq] at this
  exact this
/-- what SgrSound asks of a row -/
structure Row9 (w : World) (A : Option Addr) (n c : Nat) (l : List (List Int)) : Prop where
  rl : Par.RL w (.slice A n c) l
  len : n = l.length
  le : n ≤ 16
  six : ∀ p ∈ l, p.length ≤ 6
theorem Row9.keep {w w' : World} {A : Option Addr} {n c : Nat} {l : List (List Int)} (h : Row9 w A n c l) (hb : Below w.heap.size w w') : Row9 w' A n c l := ⟨h.rl.keep hb, h.len, h.le, h.six⟩
theorem row9_of {w : World} {v : Value} {l : List (List Int)} (h : Par.RL w v l) (hl : l.length ≤ 16) (h6 : ∀ p ∈ l, p.length ≤ 6) : ∃ A n c, v = .slice A n c ∧ Row9 w A n c l := by
  obtain ⟨A, c, rfl⟩ := h.form
  exact ⟨A, l.length, c, rfl, h, rfl, hl, h6⟩
theorem two_at (u v : Value) (k : Nat) (h : k < 2) : ∃ x, (x = u ∨ x = v) ∧ ∀ w, (Instr.index 63 (.agg #[u, v]) (.int .i64 (k : Int))).run Tryd.prog w = .ok x w := by
  rcases (show k = 0 ∨ k = 1 by omega) with rfl | rfl
  · exact ⟨u, .inl rfl, fun w => by kernel_rfl⟩
  · exact ⟨v, .inr rfl, fun w => by kernel_rfl⟩
theorem pens_sound (W : World) (h : Env W) (A : Option Addr) (n c : Nat) (l : List (List Int)) (hr : Row9 W A n c l) (hb : Par.isBad l = false) :
    Calls Tryd.prog 13 #[.slice A n c] W fun e w' => ∃ N B d, e = .returned (.tuple #[.slice B N d, .int .i64 0]) ∧ N = (pensL l).length ∧ Sty.RdP w' B (pPs (pensL l)) ∧ Below W.heap.size W w' := by
  refine (pens_is W h _ l hr.rl ⟨by have := hr.len; have := hr.le; omega, fun p hp => by have := hr.six p hp; omega⟩ (pensL l, 0) (by unfold pensV; rw [hb]; rfl)).mono ?_
  rintro e w' ⟨⟨B, d, rfl, hr⟩, hb⟩
  exact ⟨_, B, d, rfl, rfl, hr, hb⟩
theorem pens_wrong (W : World) (h : Env W) (A : Option Addr) (n c : Nat) (l : List (List Int)) (hr : Row9 W A n c l) (hb : Par.isBad l = true) :
    Calls Tryd.prog 13 #[.slice A n c] W fun e w' => ∃ B d, e = .returned (.tuple #[.slice B 0 d, .int .i64 150]) ∧ Below W.heap.size W w' := by
  refine (pens_is W h _ l hr.rl ⟨by have := hr.len; have := hr.le; omega, fun p hp => by have := hr.six p hp; omega⟩ ([], 150) (by unfold pensV; rw [hb]; rfl)).mono ?_
  rintro e w' ⟨⟨B, d, rfl, hr⟩, hb⟩
  exact ⟨B, d, rfl, hb⟩
theorem check_sound (W : World) (A : Option Addr) (n c : Nat) (l : List (List Int)) (hr : Row9 W A n c l) :
    Calls Tryd.prog 23 #[.slice A n c] W fun e w' => e = .returned (.int .i64 (if Par.isBad l then 150 else 0)) ∧ Below W.heap.size W w' :=
  Par.check_any _ l W hr.rl (by have := hr.len; have := hr.le; omega) (fun p hp => by have := hr.six p hp; omega)
set_option maxRecDepth 100000 in
set_option maxHeartbeats 4000000 in
theorem sound_any (v : Value) (ps : List UInt16) (ms : List UInt8) (A : Option Addr) (n c : Nat) (bs : List UInt8) (w : World) (het : EnvT w) (hd : Par.DrR w v ps ms) (hn : bs.length = n) (hm : n ≤ 9223372036854775807) (hr : Rd w A (cB bs)) :
    Calls Tryd.prog 7 #[v, .slice A n c] w fun e w' => e = .returned (.bool true) ∧ Below w.heap.size w w' := by
  have HT := Lib.hid het
  have HD := Lib.hid hd
  have HR := Lib.hid hr
  have HN := Lib.hid hn
  have HM := Lib.hid hm
  obtain ⟨A1, n1, c1, A2, n2, c2, rfl, -⟩ := hd
  have HX := Lib.hid (show Par.Box (w.alloc (.cells #[.slice A1 n1 c1, .slice A2 n2 c2] 26)) w.heap.size [.slice A1 n1 c1, .slice A2 n2 c2] from Par.Box.new w _ _)
  clear het hr hn hm
  go_enter Tryd.func7, Tryd.ntmps7
  go_upto_region 3 with (go_at_call 16; refine (works_any _ (HT.out.keep (below_box _ _))).mono ?_; rintro e U ⟨rfl, hb⟩; have HB := Lib.hid (Par.up (below_box _ _) hb); have HX := Lib.hid (HX.out.keep hb); clear hb)
  have x0 := HX.out.cell 0 _ rfl
  have x1 := HX.out.cell 1 _ rfl
  go_upto_region 4 with (first
    | (go_at_call 11; refine (Par.drow_any _ ps ms _ (HD.out.keep HB.out)).mono ?_; rintro e V1 ⟨v1, rfl, h1, hb⟩; obtain ⟨q1, q2, _⟩ := Par.bad_no (Par.rowV_ok ps ms); obtain ⟨B1, m1, d1, hs, h9⟩ := row9_of h1 q1 (fun p hp => (q2 p hp).2.1); subst hs; have H1 := Lib.hid h9; have HB := Lib.hid (Par.up HB.out hb); clear hb h1 q1 q2 h9 x0 x1)
    | (go_at_call 12; refine (near_any A n c bs _ HN.out HM.out (HR.out.below HB.out)).mono ?_; rintro e V2 ⟨v2, l2, rfl, h1, hnr, hb⟩; obtain ⟨B2, m2, d2, hs, h9⟩ := row9_of h1 hnr.le hnr.six; subst hs; have H2 := Lib.hid h9; have H1 := Lib.hid (H1.out.keep hb); have HB := Lib.hid (Par.up HB.out hb); clear hb h1 hnr h9))
  have HE := Lib.hid HT.out.e
  generalize Par.rowV ps ms = l1 at H1
  clear HD HR HX
  go_loopw [21] (fun i wr => ∃ k : Nat, k ≤ 2 ∧ i = .int .i64 k ∧ Hid (Below V2.heap.size V2 wr)) (fun i _ => 2 - (intOf i).toNat)
  case atStart => exact ⟨0, by omega, rfl, Below.refl _ _⟩
  case round =>
    obtain ⟨k, hk, rfl, hid⟩ := hrel
    by_cases hk2 : k < 2
    · have q1 : (k : Int) < 2 := by omega
      obtain ⟨x, hx, e1⟩ := two_at (.slice B1 m1 d1) (.slice B2 m2 d2) k hk2
      obtain ⟨C, n, c, l, rfl, h9⟩ : ∃ C n c l, x = .slice C n c ∧ Row9 wr C n c l := by
        rcases hx with rfl | rfl
        · exact ⟨_, _, _, l1, rfl, H1.out.keep hid.out⟩
        · exact ⟨_, _, _, l2, rfl, H2.out.keep hid.out⟩
      have H9 := Lib.hid h9
      have HB := Lib.hid (Par.up HB.out hid.out)
      clear hx h9 hk2
      cases hbad : Par.isBad l with
      | true =>
        have HBAD := Lib.hid hbad
        clear hbad
        go_upto_region 7 with (go_at_call 13; refine (pens_wrong _ (HE.out.keep HB.out) C n c l H9.out HBAD.out).mono ?_; rintro e W1 ⟨B, dd, rfl, hb⟩; have H9 := Lib.hid (H9.out.keep hb); have hid := Lib.hid (Par.up hid.out hb); have HB := Lib.hid (Par.up HB.out hb); clear hb)
        have HC := Lib.hid (check_sound W1 C n c l H9.out)
        rw [HBAD.out] at HC
        simp only [if_true] at HC
        go_wp2_with (go_at_call 23; refine HC.out.mono ?_; rintro e W2 ⟨rfl, hb⟩; have hid := Lib.hid (Par.up hid.out hb); clear hb HC)
        go_roundw
        case rel => exact ⟨k + 1, by omega, by go_num, hid⟩
        case measure => simp [intOf]; omega
      | false =>
        have HBAD := Lib.hid hbad
        have hF : Fine (pensL l) := ⟨sound l, by have := pensL_len l; have := H9.out.len; have := H9.out.le; omega⟩
        have HF := Lib.hid hF
        clear hbad hF
        go_upto_region 7 with (go_at_call 13; refine (pens_sound _ (HE.out.keep HB.out) C n c l H9.out HBAD.out).mono ?_; rintro e W1 ⟨N, B, dd, rfl, hN, hrd, hb⟩; have HLN := Lib.hid hN; have HP := Lib.hid hrd; have H9 := Lib.hid (H9.out.keep hb); have hid := Lib.hid (Par.up hid.out hb); have HB := Lib.hid (Par.up HB.out hb); clear hb hN hrd)
        have HC := Lib.hid (check_sound W1 C n c l H9.out)
        rw [HBAD.out] at HC
        simp only [Bool.false_eq_true, if_false] at HC
        have hmax : ¬ (max 1 (n : Int) < (N : Int)) := by have := pensL_len l; have := H9.out.len; have := HLN.out; omega
        go_upto_region 12 with (go_at_call 23; refine HC.out.mono ?_; rintro e W2 ⟨rfl, hb⟩; have HP := Lib.hid (HP.out.keep hb); have hid := Lib.hid (Par.up hid.out hb); have HB := Lib.hid (Par.up HB.out hb); clear hb HC)
        generalize hqs : pensL l = qs at HF HLN HP
        have hN16 : N ≤ 16 := by have := HF.out.le; have := HLN.out; omega
        clear hqs hmax
        go_upto_region 13 with fail
        go_loopw [9] (fun i wr => ∃ j : Nat, j ≤ N ∧ i = .int .i64 j ∧ Hid (Below W2.heap.size W2 wr)) (fun i _ => N - (intOf i).toNat)
        case atStart => exact ⟨0, by omega, rfl, Below.refl _ _⟩
        case round =>
          obtain ⟨j, hj, rfl, hin⟩ := hrel
          by_cases hj2 : j < N
          · have q2 : (j : Int) < (N : Int) := by omega
            obtain ⟨q, hq⟩ : ∃ q, qs[j]? = some q := ⟨_, List.getElem?_eq_getElem (by have := HLN.out; omega)⟩
            have hok : okQ q = true := List.all_eq_true.1 HF.out.ok q (List.mem_of_getElem? hq)
            obtain ⟨b, o', rfl, hbl, hrg⟩ := HP.out j (pP q) (by unfold pPs; rw [List.getElem?_map, hq]; rfl)
            have e2 := fun W => Sty.ix_run b o' N dd j hj2 W
            generalize o' + j * 6 = oo at e2 hrg
            have x0 : wr.cell? ⟨b, oo, none⟩ = some (.int .i64 39) := (hin.out.cell (p := ⟨b, oo, none⟩) hbl).trans (hrg 0 _ rfl)
            have x1 : wr.cell? ⟨b, oo + 1, none⟩ = some (.int .i64 q.n) := (hin.out.cell (p := ⟨b, oo + 1, none⟩) hbl).trans (hrg 1 _ rfl)
            have x2 : wr.cell? ⟨b, oo + 2, none⟩ = some (.int .i64 q.m) := (hin.out.cell (p := ⟨b, oo + 2, none⟩) hbl).trans (hrg 2 _ rfl)
            have x3 : wr.cell? ⟨b, oo + 3, none⟩ = some (.int .i64 q.c0) := (hin.out.cell (p := ⟨b, oo + 3, none⟩) hbl).trans (hrg 3 _ rfl)
            have x4 : wr.cell? ⟨b, oo + 4, none⟩ = some (.int .i64 q.c1) := (hin.out.cell (p := ⟨b, oo + 4, none⟩) hbl).trans (hrg 4 _ rfl)
            have x5 : wr.cell? ⟨b, oo + 5, none⟩ = some (.string ⟨#[]⟩) := (hin.out.cell (p := ⟨b, oo + 5, none⟩) hbl).trans (hrg 5 _ rfl)
            have HCP := Lib.hid (chk_pen q hok wr (HE.out.keep (Par.up HB.out hin.out)).l)
            clear hq hok hbl hrg
            go_wp2_with (go_at_call 24; refine HCP.out.mono ?_; rintro e W3 ⟨rfl, hb⟩; have hin := Lib.hid (Par.up hin.out hb); clear hb HCP x0 x1 x2 x3 x4 x5 e2)
            go_roundw
            case rel => exact ⟨j + 1, by omega, by go_num, hin⟩
            case measure => simp [intOf]; omega
          · obtain rfl : j = N := by omega
            have HP := Lib.hid (HP.out.keep hin.out)
            have hid := Lib.hid (Par.up hid.out hin.out)
            have HB := Lib.hid (Par.up HB.out hin.out)
            clear hin
            have HQ := Lib.hid (params_fine wr (HE.out.keep HB.out) B j dd qs HF.out HLN.out HP.out)
            go_upto_region 18 with (go_at_call 18; refine HQ.out.mono ?_; rintro e W4 ⟨B4, d4, rfl, r1, hb⟩; have HR := Lib.hid r1; have HP := Lib.hid (HP.out.keep hb); have hid := Lib.hid (Par.up hid.out hb); have HB := Lib.hid (Par.up HB.out hb); clear r1 hb HQ)
            rcases Nat.eq_zero_or_pos j with h0 | h0
            · subst h0
              have hz : qs = [] := List.eq_nil_of_length_eq_zero HLN.out.symm
              have h3 := HR.out
              rw [hz] at h3
              have HR := Lib.hid h3
              clear h3 hz
              go_wp2_with (go_at_call 13; refine (pens_none _ (HE.out.keep HB.out) _ HR.out).mono ?_; rintro e W5 ⟨B5, d5, rfl, hb⟩; have hid := Lib.hid (Par.up hid.out hb); clear hb)
              go_roundw
              case rel => exact ⟨k + 1, by omega, by go_num, hid⟩
              case measure => simp [intOf]; omega
            · have g0 : ¬ j = 0 := by omega
              have HQ := Lib.hid (pens_fine W4 (HE.out.keep HB.out) (.slice B4 j d4) j qs HF.out HLN.out h0 HR.out)
              have g1 : 0 < j := h0
              go_wp2_with (first
                | (go_at_call 13; refine HQ.out.mono ?_; rintro e W5 ⟨B5, d5, rfl, r1, hb⟩; have HR5 := Lib.hid r1; have HP := Lib.hid (HP.out.keep hb); have hid := Lib.hid (Par.up hid.out hb); clear r1 hb HQ)
                | (go_at_call 15; refine (same_good _ B B5 j dd d5 qs ⟨HF.out.ok, HF.out.le, by have := HLN.out; omega⟩ HLN.out HP.out HR5.out).mono ?_; rintro e W6 ⟨rfl, hb⟩; have hid := Lib.hid (Par.up hid.out hb); clear hb))
              go_roundw
              case rel => exact ⟨k + 1, by omega, by go_num, hid⟩
              case measure => simp [intOf]; omega
    · obtain rfl : k = 2 := by omega
      go_wp2_with fail
      go_ret
      exact ⟨rfl, Par.up HB.out hid.out⟩
end Go.Proofs.YtdgainaeaabieaaDoor.Sgr
