/-
  StaOa
-/
import Derived.Deep.RegionLawGrows
import Derived.BigRegion
import Derived.Test.YtmboekpomjgnnaaGreatDoorF29
import Derived.Test.YtmboekpomjgnnaaGreatDoorF43
namespace Go.Proofs.YtmboekpomjgnnaaGreatDoor.Sta
open Go.RowKit Utf Par

def mn6 (n : Nat) : Nat := min n 6
def mn9 (n : Nat) : Nat := min n 9
def mn600 (n : Nat) : Nat := min n 600
theorem min_6 (n : Nat) : (if (6 : Int) < (n : Int) then (6 : Int) else (n : Int)) = ((mn6 n : Nat) : Int) := by unfold mn6; split <;> omega
theorem min_600 (n : Nat) : (if (600 : Int) < (n : Int) then (600 : Int) else (n : Int)) = ((mn600 n : Nat) : Int) := by unfold mn600; split <;> omega
theorem min_9 (n : Nat) : (if (9 : Int) < (n : Int) then (9 : Int) else (n : Int)) = ((mn9 n : Nat) : Int) := by unfold mn9; split <;> omega
attribute [local go_sem] min_6 min_9 min_600
def shP9 (p : List Int) : List Int := p.take 9
def shL9 (l : List (List Int)) : List (List Int) := (l.take 20).map shP9
def shS (p : PS) : PS := { p with utf := p.utf.take 6, it := p.it.extract 0 (mn6 p.it.size), tx := p.tx.extract 0 (mn600 p.tx.size), ps := shL9 p.ps }
theorem RI.cut9 {w : World} {B : Option Addr} {cc : Nat} {p : List Int} (h : RI w (.slice B p.length cc) p) (k : Nat) (hk : k = mn9 p.length) : RI w (.slice B k cc) (shP9 p) := by
  unfold mn9 at hk
  obtain ⟨B', c', he, g1, g2, g3, g4⟩ := h
  cases he
  have hl : (shP9 p).length = k := by unfold shP9; rw [List.length_take]; omega
  refine ⟨B, cc, by rw [hl], by omega, g2, g3, fun j u hu => ?_⟩
  refine g4 j u ?_
  have hj : j < (cI (shP9 p)).length := (List.getElem?_eq_some_iff.1 hu).1
  rw [cI_len, hl] at hj
  rw [← hu]
  unfold cI shP9
  simp [show j < 9 by omega]
theorem shL9_take (l : List (List Int)) (i : Nat) (p : List Int) (h : l[i]? = some p) : (l.take (i + 1)).map shP9 = (l.take i).map shP9 ++ [shP9 p] := by
  rw [List.take_add_one, h, List.map_append]; rfl
theorem RB.cut6 {w : World} {A : Option Addr} {n c : Nat} {bs : List UInt8} (h : RB w (.slice A n c) bs) (hn : n = bs.length) : RB w (.slice A (mn6 n) c) (bs.take 6) := by
  obtain ⟨A', c', e, g1, g2⟩ := h
  cases e
  have hl : (bs.take 6).length = mn6 bs.length := by unfold mn6; rw [List.length_take]; omega
  refine ⟨A, c, by rw [hl], by rw [hl]; unfold mn6; omega, fun j u hu => g2 j u ?_⟩
  have hj : j < (cB (bs.take 6)).length := (List.getElem?_eq_some_iff.1 hu).1
  rw [cB_len, hl] at hj
  unfold mn6 at hj
  rw [← hu]
  unfold cB
  simp [show j < 6 by omega]
theorem own_at {w w' : World} {base sz n : Nat} {ty : TypeId} {v : Value} {cs : List Value} (h : w.ownsRow base ty sz v n cs) (hb : ∀ k, v.ownBlock = some k → base ≤ k → k < w.heap.size → w'.heap[k]? = w.heap[k]?) : w'.ownsRow base ty sz v n cs := by
  rcases h with ⟨h0, hv | ⟨k, cap, cur, hv, h1, hg, h2⟩⟩
  · exact ⟨h0, .inl hv⟩
  · exact ⟨h0, .inr ⟨k, cap, cur, hv, h1, (hb k (by rw [hv]; rfl) h1 (Array.getElem?_eq_some_iff.1 hg).1).trans hg, h2⟩⟩
theorem ShO.off {w0 W : World} {B : Nat} {v : Value} {l : List (List Int)} (h : ShO w0 W B v l) : LX (fun k => B ≤ k) v ∧ PL (LX (fun k => k < w0.heap.size)) W v := by
  obtain ⟨us, h1, h2, h3⟩ := h
  refine ⟨fun ad n c e h0 => ?_, fun A n c j x e hj hx => ?_⟩
  · rcases h1.2 with ⟨e', _⟩ | ⟨g, cap, cur, e', hB, _⟩
    · rw [e] at e'; cases e'
    · rw [e] at e'; cases e'; exact hB
  · rcases h1.2 with ⟨e', _⟩ | ⟨g, cap, cur, e', hB, _⟩
    · rw [e] at e'; cases e'
    · rw [e] at e'; cases e'
      subst e
      obtain ⟨y, hy⟩ := get_some us j (by omega)
      obtain ⟨p, hp⟩ := get_some l j hj
      obtain ⟨ad', e2, _, hc⟩ := Rd.own h1 j y hy
      cases e2
      rw [hx] at hc
      cases hc
      exact fun ad m d ex h0 => RI.lt (h3 j x p hy hp) ad m d ex h0
theorem shL9_ks (l : List (List Int)) : Ks (shL9 l) := by
  refine ⟨by simp [shL9]; omega, fun p hp => ?_⟩
  unfold shL9 at hp
  obtain ⟨q, _, rfl⟩ := List.mem_map.1 hp
  unfold shP9
  rw [List.length_take]; omega
set_option maxRecDepth 100000 in
set_option maxHeartbeats 8000000 in
theorem short6_at (p : PS) (au aq : Option Addr) (nu cu nq cq : Nat) (w0 w : World) (hr : RS w0 (.slice au nu cu) (.slice aq nq cq) p) (hw : Below w0.heap.size w0 w) (h1 : nu = p.utf.length) (h2 : nq = p.ps.length) :
    Calls Tryz.prog 6 #[.agg (cS p (.slice au nu cu) (.slice aq nq cq))] w fun e w' => ∃ u q, e = .returned (.agg (cS (shS p) u q)) ∧ PX (fun k => k < w0.heap.size ∨ w.heap.size ≤ k) w' u q (shS p) ∧ Below w.heap.size w w' := by
  have hx1 := below_box w (.cells #[.int .i64 p.st, .slice au nu cu, .int .u8 (p.pr.toNat : Int), .int .u8 (p.fi.toNat : Int), .slice aq nq cq, .string p.it, .string p.tx, .bool p.bad] 25)
  have hx2 : Below w.heap.size w ((w.alloc (.cells #[.int .i64 p.st, .slice au nu cu, .int .u8 (p.pr.toNat : Int), .int .u8 (p.fi.toNat : Int), .slice aq nq cq, .string p.it, .string p.tx, .bool p.bad] 25)).alloc (.cells #[.int .i64 0, .slice none 0 0, .int .u8 0, .int .u8 0, .slice none 0 0, .string ⟨#[]⟩, .string ⟨#[]⟩, .bool false] 25)) := up hx1 (below_box _ _)
  have hp2 := (Box.new w #[.int .i64 p.st, .slice au nu cu, .int .u8 (p.pr.toNat : Int), .int .u8 (p.fi.toNat : Int), .slice aq nq cq, .string p.it, .string p.tx, .bool p.bad] 25).alloc (.cells #[.int .i64 0, .slice none 0 0, .int .u8 0, .int .u8 0, .slice none 0 0, .string ⟨#[]⟩, .string ⟨#[]⟩, .bool false] 25)
  have hz2 := Box.new (w.alloc (.cells #[.int .i64 p.st, .slice au nu cu, .int .u8 (p.pr.toNat : Int), .int .u8 (p.fi.toNat : Int), .slice aq nq cq, .string p.it, .string p.tx, .bool p.bad] 25)) #[.int .i64 0, .slice none 0 0, .int .u8 0, .int .u8 0, .slice none 0 0, .string ⟨#[]⟩, .string ⟨#[]⟩, .bool false] 25
  rw [World.size_alloc] at hz2
  have HR := Lib.hid hr
  have HW := Lib.hid hw
  have HN := Lib.hid (And.intro h1 h2)
  have hcu : nu ≤ cu := by obtain ⟨A, c, e, h, _⟩ := hr.1; cases e; omega
  have m1 : (mn6 nu : Int) ≤ (cu : Int) := by unfold mn6; omega
  have m2 : (mn6 p.it.size : Int) ≤ (p.it.size : Int) := by unfold mn6; omega
  have m3 : (mn600 p.tx.size : Int) ≤ (p.tx.size : Int) := by unfold mn600; omega
  have HP2 := Lib.hid hp2
  have HZ2 := Lib.hid hz2
  have HX2 := Lib.hid hx2
  clear hx1 hx2 hp2 hz2 hr hw h1 h2
  unfold cS
  go_enter Tryz.func6, Tryz.ntmps6
  go_upto_region 1 with fail
  generalize ((w.alloc (.cells #[.int .i64 p.st, .slice au nu cu, .int .u8 (p.pr.toNat : Int), .int .u8 (p.fi.toNat : Int), .slice aq nq cq, .string p.it, .string p.tx, .bool p.bad] 25)).alloc (.cells #[.int .i64 0, .slice none 0 0, .int .u8 0, .int .u8 0, .slice none 0 0, .string ⟨#[]⟩, .string ⟨#[]⟩, .bool false] 25)) = w2 at HP2 HZ2 HX2 ⊢
  have hp2 := HP2.out
  have y0 := hp2.cell 0 _ rfl
  have y1 := hp2.cell 1 _ rfl
  have y2 := hp2.cell 2 _ rfl
  have y3 := hp2.cell 3 _ rfl
  have y4 := hp2.cell 4 _ rfl
  have y5 := hp2.cell 5 _ rfl
  have y6 := hp2.cell 6 _ rfl
  have y7 := hp2.cell 7 _ rfl
  have v1 := hp2.free 1 (by show 1 < 8; decide)
  have v5 := hp2.free 5 (by show 5 < 8; decide)
  have v6 := hp2.free 6 (by show 6 < 8; decide)
  clear hp2
  go_cut [3] from 5 to 28 (fun _ wx => Box wx w.heap.size [.int .i64 p.st, .slice au (mn6 nu) cu, .int .u8 (p.pr.toNat : Int), .int .u8 (p.fi.toNat : Int), .slice aq nq cq, .string (p.it.extract 0 (mn6 p.it.size)), .string (p.tx.extract 0 (mn600 p.tx.size)), .bool p.bad] ∧ Box wx (w.heap.size + 1) [.int .i64 0, .slice none 0 0, .int .u8 0, .int .u8 0, .slice none 0 0, .string ⟨#[]⟩, .string ⟨#[]⟩, .bool false] ∧ Below w.heap.size w wx)
  case first =>
    go_region
    go_wp2_with fail
    go_meet
    case rel =>
      refine ⟨(((HP2.out.set 1 (.slice au (mn6 nu) cu)).set 5 (.string (p.it.extract 0 (mn6 p.it.size)))).set 6 (.string (p.tx.extract 0 (mn600 p.tx.size)))).drew, (((HZ2.out.grown (grown_set _ w.heap.size 1 _) ?_).grown (grown_set _ w.heap.size 5 _) ?_).grown (grown_set _ w.heap.size 6 _) ?_).drew, (((HX2.out.grown (grown_set _ w.heap.size 1 _) ?_ ?_).grown (grown_set _ w.heap.size 5 _) ?_ ?_).grown (grown_set _ w.heap.size 6 _) ?_ ?_).drew⟩
      all_goals first | (intro e; injection e with e; omega) | (intro kk e; injection e with e; omega) | exact HX2.out.size | exact Nat.le_trans HX2.out.size (grown_set w2 w.heap.size 1 _).size | exact Nat.le_trans (Nat.le_trans HX2.out.size (grown_set w2 w.heap.size 1 _).size) (grown_set _ w.heap.size 5 _).size
  case rest =>
    obtain ⟨hp3, hz3, hb3⟩ := hcut
    have HL := Lib.hid HR.out.2
    have HP3 := Lib.hid hp3
    have HZ3 := Lib.hid hz3
    have HB3 := Lib.hid hb3
    have hnq := HN.out.2
    have hsz3 : w.heap.size + 1 < wc.heap.size := hz3.1
    clear hp3 hz3 hb3 y0 y1 y2 y3 y4 y5 y6 y7 v1 v5 v6
    obtain ⟨t1, hi1, hy0, hy1, hy2⟩ := info_parts infoP
    go_wp2_with fail
    go_loopw [4, 3] (fun iv ov wr => ∃ i : Nat, i ≤ nq ∧ i ≤ 20 ∧ iv = .int .i64 i ∧ Hid (ShO w0 wr wc.heap.size ov ((p.ps.take i).map shP9) ∧ Below wc.heap.size wc wr)) (fun iv _ _ => nq - (intOf iv).toNat)
    case atStart => exact ⟨0, Nat.zero_le _, Nat.zero_le _, rfl, ShO.nil _ _ _, Below.refl _ _⟩
    case round =>
      obtain ⟨i, hin, hi20, rfl, hid⟩ := hrel
      have hlt0 : (p.ps.take i).length = i := by rw [List.length_take, ← hnq]; omega
      obtain ⟨us, hu1, hu2, hu3⟩ := hid.out.1
      rw [List.length_map, hlt0] at hu1
      obtain ⟨AO, co, rfl, _, _⟩ := own_slice hu1
      have hp4 := HP3.out.keep hid.out.2
      have y4 := hp4.cell 4 _ rfl
      by_cases hlt : i < nq ∧ i < 20
      · obtain ⟨hlt, hlt2⟩ := hlt
        obtain ⟨pp, hp⟩ := get_some p.ps i (by omega)
        obtain ⟨ad, XA, xc, rfl, hal, hcx, hxc, hrx⟩ := HL.out.itemI hp
        have hcx1 := ((up HW.out (up HB3.out hid.out.2)).cell (p := ad.add i) (by rw [add_block]; exact hal)).trans hcx
        obtain ⟨m, hm⟩ : ∃ m, m = pp.length := ⟨_, rfl⟩
        rw [← hm] at hcx1 hxc
        have U1 := Lib.hid hu1; clear hu1
        have HX := Lib.hid hrx
        have HPP := Lib.hid hp
        have HM := Lib.hid hm
        clear hcx hp hm hrx
        have hsz := hid.out.2.size
        have i1 : (0 : Int) ≤ (i : Int) := by omega
        have i2 : (i : Int) < (nq : Int) := by omega
        have m4 : (mn9 m : Int) ≤ (xc : Int) := by unfold mn9; omega
        go_upto_region 6 with fail
        go_region_law (refine step_app _ rfl (.tmp 40) (.tmp 57) 23 rfl wc.heap.size 51 t1 _ 24 Tryz.underlying23 hi1 hy0 hy1 hy2 rfl (.slice AO i co) i us (by simp [Act.eval]) (own_below U1.out ((below_box wr (.cells #[.slice XA (mn9 m) xc] 51)).drew)) (some ⟨wr.heap.size, 0, none⟩) 1 1 [.slice XA (mn9 m) xc] (by simp [Act.eval]) rfl ((Rd.one wr (.slice XA (mn9 m) xc) 51).below ((Below.refl _ _).drew)) (by intro u hu; simp at hu; subst hu; rfl) (by omega) (by decide) (by simp; omega) ?_; intro v' w' hown hgrow)
        all_goals
          obtain ⟨A6, c6, rfl, _, _⟩ := own_slice hown
          have hol : ShO w0 w' wc.heap.size (.slice A6 (i + 1) c6) ((p.ps.take i).map shP9 ++ [shP9 pp]) := by
            refine ShO.snoc hu2 hu3 (RI.cut9 HX.out (mn9 m) (by rw [← HM.out])) ?_
            rw [List.length_map, hlt0]
            exact hown
          rw [← shL9_take p.ps i pp HPP.out] at hol
          have hbe : Below wc.heap.size wc w' := (up hid.out.2 ((below_box wr (.cells #[.slice XA (mn9 m) xc] 51)).drew)).grown hgrow (by simp; omega) (fun q hq => (U1.out.lt q hq).1)
          have G := Lib.hid (And.intro hol hbe)
          clear hol hbe hgrow hown
          go_wp2
          go_roundw
          case rel => exact ⟨i + 1, by omega, by omega, by go_num, G.out.1, G.out.2⟩
          case measure => simp [intOf]; omega
      · have ho : ShO w0 wr wc.heap.size (.slice AO i co) (shL9 p.ps) := by
          have h0 := hid.out.1
          rwa [show (p.ps.take i).map shP9 = shL9 p.ps by
            unfold shL9
            rcases (show i = nq ∨ i = 20 by omega) with h | h
            · rw [List.take_of_length_le (by omega), List.take_of_length_le (by omega)]
            · rw [h]] at h0
        have hz4 := HZ3.out.keep hid.out.2
        have hlen : i = (shL9 p.ps).length := by unfold shL9; rw [List.length_map, List.length_take]; omega
        obtain ⟨vs, ho1, ho2, ho3⟩ := ho
        have hp5 := hp4.set 4 (.slice AO i co)
        have gs5 := grown_set wr w.heap.size 4 (.slice AO i co)
        have hz5 := hz4.grown gs5 (by intro e; injection e with e; omega)
        have v4 := hp4.free 4 (by show 4 < 8; decide)
        have ho5 := own_at (w' := wr.setCell ⟨w.heap.size, 4, none⟩ (.slice AO i co)) ho1 (fun kk _ h1 h2 => gs5.block kk h2 (by intro e; injection e with e; omega))
        have hb5 : Below w.heap.size w (wr.setCell ⟨w.heap.size, 4, none⟩ (.slice AO i co)) := (up HB3.out hid.out.2).grown gs5 (up HB3.out hid.out.2).size (fun kk hk => by cases hk; exact Nat.le_refl _)
        have HO := Lib.hid (And.intro ho5 (And.intro ho2 ho3))
        have HP5 := Lib.hid hp5
        have HZ5 := Lib.hid hz5
        have HB5 := Lib.hid hb5
        have HLEN := Lib.hid hlen
        clear ho1 ho2 ho3 ho5 hp5 hz5 hb5 gs5 hz4 hp4 hlen hu1 hu2 hu3 hnq hlt0
        rcases (show i = nq ∨ (i < nq ∧ i = 20) by omega) with h | ⟨h, h2⟩
        · subst h
          go_upto_region 8 with fail
          generalize wr.setCell ⟨w.heap.size, 4, none⟩ (.slice AO i co) = w5 at HO HP5 HZ5 HB5 ⊢
          have hp5 := HP5.out
          have hz5 := HZ5.out
          dsimp only [List.set] at hp5
          have x0 := hp5.cell 0 _ rfl
          have z0 := hz5.cell 0 _ rfl
          have f0 := hz5.free 0 (by show 0 < 8; decide)
          have x1 := hp5.cell 1 _ rfl
          have z1 := hz5.cell 1 _ rfl
          have f1 := hz5.free 1 (by show 1 < 8; decide)
          have x2 := hp5.cell 2 _ rfl
          have z2 := hz5.cell 2 _ rfl
          have f2 := hz5.free 2 (by show 2 < 8; decide)
          have x3 := hp5.cell 3 _ rfl
          have z3 := hz5.cell 3 _ rfl
          have f3 := hz5.free 3 (by show 3 < 8; decide)
          have x4 := hp5.cell 4 _ rfl
          have z4 := hz5.cell 4 _ rfl
          have f4 := hz5.free 4 (by show 4 < 8; decide)
          have x5 := hp5.cell 5 _ rfl
          have z5 := hz5.cell 5 _ rfl
          have f5 := hz5.free 5 (by show 5 < 8; decide)
          have x6 := hp5.cell 6 _ rfl
          have z6 := hz5.cell 6 _ rfl
          have f6 := hz5.free 6 (by show 6 < 8; decide)
          have x7 := hp5.cell 7 _ rfl
          have z7 := hz5.cell 7 _ rfl
          have f7 := hz5.free 7 (by show 7 < 8; decide)
          clear hp5 hz5
          go_wp2_with fail
          have gs := grown_set8 w5 (w.heap.size + 1) (.int .i64 p.st) (.slice au (mn6 nu) cu) (.int .u8 (p.pr.toNat : Int)) (.int .u8 (p.fi.toNat : Int)) (.slice AO i co) (.string (p.it.extract 0 (mn6 p.it.size))) (.string (p.tx.extract 0 (mn600 p.tx.size))) (.bool p.bad)
          have hbx := box_set8 (.int .i64 p.st) (.slice au (mn6 nu) cu) (.int .u8 (p.pr.toNat : Int)) (.int .u8 (p.fi.toNat : Int)) (.slice AO i co) (.string (p.it.extract 0 (mn6 p.it.size))) (.string (p.tx.extract 0 (mn600 p.tx.size))) (.bool p.bad) HZ5.out
          generalize ((((((((w5.setCell ⟨w.heap.size + 1, 0, none⟩ (.int .i64 p.st)).setCell ⟨w.heap.size + 1, 1, none⟩ (.slice au (mn6 nu) cu)).setCell ⟨w.heap.size + 1, 2, none⟩ (.int .u8 (p.pr.toNat : Int))).setCell ⟨w.heap.size + 1, 3, none⟩ (.int .u8 (p.fi.toNat : Int))).setCell ⟨w.heap.size + 1, 4, none⟩ (.slice AO i co)).setCell ⟨w.heap.size + 1, 5, none⟩ (.string (p.it.extract 0 (mn6 p.it.size)))).setCell ⟨w.heap.size + 1, 6, none⟩ (.string (p.tx.extract 0 (mn600 p.tx.size)))).setCell ⟨w.heap.size + 1, 7, none⟩ (.bool p.bad)) = W6 at gs hbx ⊢
          refine bodyPost_ret (ret_cell1 rfl _ _ ⟨w.heap.size + 1, 0, none⟩ _ rfl (load_par8 _ _ _ _ _ _ _ _ _ _ hbx)) rfl ?_
          have hbw : Below w.heap.size w W6 := HB5.out.grown gs HB5.out.size (fun kk hk => by cases hk; exact Nat.le_succ _)
          have hwb := up HW.out hbw
          have hsh : ShO w0 W6 wc.heap.size (.slice AO i co) (shL9 p.ps) := ⟨vs, own_at HO.out.1 (fun kk _ h1 h2 => gs.block kk h2 (by intro e; injection e with e; omega)), HO.out.2.1, HO.out.2.2⟩
          have hcut := RB.cut6 HR.out.1 HN.out.1
          have hof := ShO.off hsh
          have hbc := HB3.out.size
          exact ⟨.slice au (mn6 nu) cu, .slice AO i co, rfl, ⟨⟨hcut.keep hwb, hsh.rl hwb⟩, fun ad m d e h0 => .inl (RB.lt hcut ad m d e h0), fun ad m d e h0 => .inr (Nat.le_trans hbc (hof.1 ad m d e h0)), fun A m d j x e hj hx => LX.mono (hof.2 A m d j x e hj hx) (fun k hk => .inl hk)⟩, hbw⟩
        · have i2 : (i : Int) < (nq : Int) := by omega
          have i3 : decide ((i : Int) < 20) = false := by simp; omega
          clear h h2
          go_upto_region 8 with fail
          generalize wr.setCell ⟨w.heap.size, 4, none⟩ (.slice AO i co) = w5 at HO HP5 HZ5 HB5 ⊢
          have hp5 := HP5.out
          have hz5 := HZ5.out
          dsimp only [List.set] at hp5
          have x0 := hp5.cell 0 _ rfl
          have z0 := hz5.cell 0 _ rfl
          have f0 := hz5.free 0 (by show 0 < 8; decide)
          have x1 := hp5.cell 1 _ rfl
          have z1 := hz5.cell 1 _ rfl
          have f1 := hz5.free 1 (by show 1 < 8; decide)
          have x2 := hp5.cell 2 _ rfl
          have z2 := hz5.cell 2 _ rfl
          have f2 := hz5.free 2 (by show 2 < 8; decide)
          have x3 := hp5.cell 3 _ rfl
          have z3 := hz5.cell 3 _ rfl
          have f3 := hz5.free 3 (by show 3 < 8; decide)
          have x4 := hp5.cell 4 _ rfl
          have z4 := hz5.cell 4 _ rfl
          have f4 := hz5.free 4 (by show 4 < 8; decide)
          have x5 := hp5.cell 5 _ rfl
          have z5 := hz5.cell 5 _ rfl
          have f5 := hz5.free 5 (by show 5 < 8; decide)
          have x6 := hp5.cell 6 _ rfl
          have z6 := hz5.cell 6 _ rfl
          have f6 := hz5.free 6 (by show 6 < 8; decide)
          have x7 := hp5.cell 7 _ rfl
          have z7 := hz5.cell 7 _ rfl
          have f7 := hz5.free 7 (by show 7 < 8; decide)
          clear hp5 hz5
          go_wp2_with fail
          have gs := grown_set8 w5 (w.heap.size + 1) (.int .i64 p.st) (.slice au (mn6 nu) cu) (.int .u8 (p.pr.toNat : Int)) (.int .u8 (p.fi.toNat : Int)) (.slice AO i co) (.string (p.it.extract 0 (mn6 p.it.size))) (.string (p.tx.extract 0 (mn600 p.tx.size))) (.bool p.bad)
          have hbx := box_set8 (.int .i64 p.st) (.slice au (mn6 nu) cu) (.int .u8 (p.pr.toNat : Int)) (.int .u8 (p.fi.toNat : Int)) (.slice AO i co) (.string (p.it.extract 0 (mn6 p.it.size))) (.string (p.tx.extract 0 (mn600 p.tx.size))) (.bool p.bad) HZ5.out
          generalize ((((((((w5.setCell ⟨w.heap.size + 1, 0, none⟩ (.int .i64 p.st)).setCell ⟨w.heap.size + 1, 1, none⟩ (.slice au (mn6 nu) cu)).setCell ⟨w.heap.size + 1, 2, none⟩ (.int .u8 (p.pr.toNat : Int))).setCell ⟨w.heap.size + 1, 3, none⟩ (.int .u8 (p.fi.toNat : Int))).setCell ⟨w.heap.size + 1, 4, none⟩ (.slice AO i co)).setCell ⟨w.heap.size + 1, 5, none⟩ (.string (p.it.extract 0 (mn6 p.it.size)))).setCell ⟨w.heap.size + 1, 6, none⟩ (.string (p.tx.extract 0 (mn600 p.tx.size)))).setCell ⟨w.heap.size + 1, 7, none⟩ (.bool p.bad)) = W6 at gs hbx ⊢
          refine bodyPost_ret (ret_cell1 rfl _ _ ⟨w.heap.size + 1, 0, none⟩ _ rfl (load_par8 _ _ _ _ _ _ _ _ _ _ hbx)) rfl ?_
          have hbw : Below w.heap.size w W6 := HB5.out.grown gs HB5.out.size (fun kk hk => by cases hk; exact Nat.le_succ _)
          have hwb := up HW.out hbw
          have hsh : ShO w0 W6 wc.heap.size (.slice AO i co) (shL9 p.ps) := ⟨vs, own_at HO.out.1 (fun kk _ h1 h2 => gs.block kk h2 (by intro e; injection e with e; omega)), HO.out.2.1, HO.out.2.2⟩
          have hcut := RB.cut6 HR.out.1 HN.out.1
          have hof := ShO.off hsh
          have hbc := HB3.out.size
          exact ⟨.slice au (mn6 nu) cu, .slice AO i co, rfl, ⟨⟨hcut.keep hwb, hsh.rl hwb⟩, fun ad m d e h0 => .inl (RB.lt hcut ad m d e h0), fun ad m d e h0 => .inr (Nat.le_trans hbc (hof.1 ad m d e h0)), fun A m d j x e hj hx => LX.mono (hof.2 A m d j x e hj hx) (fun k hk => .inl hk)⟩, hbw⟩
theorem short6_any (p : PS) (au aq : Option Addr) (nu cu nq cq : Nat) (w : World) (hr : RS w (.slice au nu cu) (.slice aq nq cq) p) (h1 : nu = p.utf.length) (h2 : nq = p.ps.length) :
    Calls Tryz.prog 6 #[.agg (cS p (.slice au nu cu) (.slice aq nq cq))] w fun e w' => ∃ u q, e = .returned (.agg (cS (shS p) u q)) ∧ RS w' u q (shS p) ∧ Below w.heap.size w w' :=
  (short6_at p au aq nu cu nq cq w w hr (Below.refl _ _) h1 h2).mono fun _ _ ⟨u, q, h1, h2, h3⟩ => ⟨u, q, h1, h2.1, h3⟩
end Go.Proofs.YtmboekpomjgnnaaGreatDoor.Sta
