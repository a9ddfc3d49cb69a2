/-
  The walk of StateSteps.
-/
import Derived.Deep.RegionHeld3
import Derived.Test.YtmboekpomjgnnaaGreatDoorF51
namespace Go.Proofs.YtmboekpomjgnnaaGreatDoor.Sta
open Go.RowKit Utf Par
attribute [local go_sem] min_300

/-- a parse and where its slices lie -/
structure Q8 where
  p : PS
  au : Option Addr
  aq : Option Addr
  cu : Nat
  cq : Nat
def okQ (w : World) (z : Q8) : Prop := RS w (.slice z.au z.p.utf.length z.cu) (.slice z.aq z.p.ps.length z.cq) z.p ∧ Lim z.p
theorem okQ.keep {w w' : World} {z : Q8} (h : okQ w z) (hb : Below w.heap.size w w') : okQ w' z := ⟨h.1.keep hb, h.2⟩
/-- the two parses that the law steps from -/
def Two (w : World) (s25 s26 : Value) (wx : World) : Prop := ∃ x y, s25 = .agg #[.int .i64 x.p.st, .slice x.au x.p.utf.length x.cu, .int .u8 (x.p.pr.toNat : Int), .int .u8 (x.p.fi.toNat : Int), .slice x.aq x.p.ps.length x.cq, .string x.p.it, .string x.p.tx, .bool x.p.bad, .int .i64 y.p.st, .slice y.au y.p.utf.length y.cu, .int .u8 (y.p.pr.toNat : Int), .int .u8 (y.p.fi.toNat : Int), .slice y.aq y.p.ps.length y.cq, .string y.p.it, .string y.p.tx, .bool y.p.bad] ∧ s26 = .int .i64 0 ∧ okQ wx x ∧ okQ wx y ∧ Below w.heap.size w wx
theorem ixP2 (x y : Q8) (k : Nat) (hk : k < 2) : ∃ z, (z = x ∨ z = y) ∧ ∀ W, (Instr.index 39 (.agg #[.int .i64 x.p.st, .slice x.au x.p.utf.length x.cu, .int .u8 (x.p.pr.toNat : Int), .int .u8 (x.p.fi.toNat : Int), .slice x.aq x.p.ps.length x.cq, .string x.p.it, .string x.p.tx, .bool x.p.bad, .int .i64 y.p.st, .slice y.au y.p.utf.length y.cu, .int .u8 (y.p.pr.toNat : Int), .int .u8 (y.p.fi.toNat : Int), .slice y.aq y.p.ps.length y.cq, .string y.p.it, .string y.p.tx, .bool y.p.bad]) (.int .i64 (k : Int))).run Tryz.prog W = .ok (.agg #[.int .i64 z.p.st, .slice z.au z.p.utf.length z.cu, .int .u8 (z.p.pr.toNat : Int), .int .u8 (z.p.fi.toNat : Int), .slice z.aq z.p.ps.length z.cq, .string z.p.it, .string z.p.tx, .bool z.p.bad]) W := by
  rcases (show k = 0 ∨ k = 1 by omega) with rfl | rfl
  · exact ⟨x, .inl rfl, fun _ => by kernel_rfl⟩
  · exact ⟨y, .inr rfl, fun _ => by kernel_rfl⟩
theorem u8_of (n : Int) (h0 : 0 ≤ n) (h1 : n < 256) : ∃ d : UInt8, n = (d.toNat : Int) := ⟨UInt8.ofNat n.toNat, by rw [UInt8.toNat_ofNat']; omega⟩
theorem ixB8 (n0 n1 n2 n3 n4 n5 n6 n7 : Int) (h0 : 0 ≤ n0 ∧ n0 < 256) (h1 : 0 ≤ n1 ∧ n1 < 256) (h2 : 0 ≤ n2 ∧ n2 < 256) (h3 : 0 ≤ n3 ∧ n3 < 256) (h4 : 0 ≤ n4 ∧ n4 < 256) (h5 : 0 ≤ n5 ∧ n5 < 256) (h6 : 0 ≤ n6 ∧ n6 < 256) (h7 : 0 ≤ n7 ∧ n7 < 256) (k : Nat) (hk : k < 8) : ∃ d : UInt8, ∀ W, (Instr.index 40 (.agg #[.int .u8 n0, .int .u8 n1, .int .u8 n2, .int .u8 n3, .int .u8 n4, .int .u8 n5, .int .u8 n6, .int .u8 n7]) (.int .i64 (k : Int))).run Tryz.prog W = .ok (.int .u8 (d.toNat : Int)) W := by
  obtain ⟨d0, rfl⟩ := u8_of n0 h0.1 h0.2
  obtain ⟨d1, rfl⟩ := u8_of n1 h1.1 h1.2
  obtain ⟨d2, rfl⟩ := u8_of n2 h2.1 h2.2
  obtain ⟨d3, rfl⟩ := u8_of n3 h3.1 h3.2
  obtain ⟨d4, rfl⟩ := u8_of n4 h4.1 h4.2
  obtain ⟨d5, rfl⟩ := u8_of n5 h5.1 h5.2
  obtain ⟨d6, rfl⟩ := u8_of n6 h6.1 h6.2
  obtain ⟨d7, rfl⟩ := u8_of n7 h7.1 h7.2
  rcases (show k = 0 ∨ k = 1 ∨ k = 2 ∨ k = 3 ∨ k = 4 ∨ k = 5 ∨ k = 6 ∨ k = 7 by omega) with rfl | rfl | rfl | rfl | rfl | rfl | rfl | rfl
  · exact ⟨d0, fun _ => by kernel_rfl⟩
  · exact ⟨d1, fun _ => by kernel_rfl⟩
  · exact ⟨d2, fun _ => by kernel_rfl⟩
  · exact ⟨d3, fun _ => by kernel_rfl⟩
  · exact ⟨d4, fun _ => by kernel_rfl⟩
  · exact ⟨d5, fun _ => by kernel_rfl⟩
  · exact ⟨d6, fun _ => by kernel_rfl⟩
  · exact ⟨d7, fun _ => by kernel_rfl⟩
set_option maxRecDepth 100000 in
set_option maxHeartbeats 8000000 in
theorem steps6_any (p : PS) (au aq A : Option Addr) (nu cu nq cq nb cb : Nat) (bs : List UInt8) (c : UInt8) (W0 : World) (hr : RS W0 (.slice au nu cu) (.slice aq nq cq) p) (h1 : nu = p.utf.length) (h2 : nq = p.ps.length)
    (hb : Rd W0 A (cB bs)) (hn : nb = bs.length) (hc : nb ≤ cb) (hm : Mk W0) (ht : Tf W0) :
    Calls Tryz.prog 4 #[.agg (cS p (.slice au nu cu) (.slice aq nq cq)), .slice A nb cb, .int .u8 (c.toNat : Int)] W0 fun e w' => e = .returned (.bool true) ∧ Below W0.heap.size W0 w' := by
  unfold cS
  have hx1 := Box.new W0 #[.int .i64 p.st, .slice au nu cu, .int .u8 (p.pr.toNat : Int), .int .u8 (p.fi.toNat : Int), .slice aq nq cq, .string p.it, .string p.tx, .bool p.bad] 25
  have hb1 := below_box W0 (.cells #[.int .i64 p.st, .slice au nu cu, .int .u8 (p.pr.toNat : Int), .int .u8 (p.fi.toNat : Int), .slice aq nq cq, .string p.it, .string p.tx, .bool p.bad] 25)
  have HR := Lib.hid hr
  have HN := Lib.hid (And.intro h1 h2)
  have HB := Lib.hid hb
  have HNB := Lib.hid hn
  have HM := Lib.hid hm
  have HT := Lib.hid ht
  have HX1 := Lib.hid hx1
  have HB1 := Lib.hid hb1
  have m1 : (mn300 nb : Int) ≤ (cb : Int) := by unfold mn300; omega
  clear hr h1 h2 hb hn hm ht hx1 hb1
  go_enter Tryz.func4, Tryz.ntmps4
  go_upto_region 1 with fail
  generalize W0.alloc (.cells #[.int .i64 p.st, .slice au nu cu, .int .u8 (p.pr.toNat : Int), .int .u8 (p.fi.toNat : Int), .slice aq nq cq, .string p.it, .string p.tx, .bool p.bad] 25) = w1 at HX1 HB1 ⊢
  have hS : ∀ W, Below w1.heap.size w1 W → Calls Tryz.prog 6 #[.agg #[.int .i64 p.st, .slice au nu cu, .int .u8 (p.pr.toNat : Int), .int .u8 (p.fi.toNat : Int), .slice aq nq cq, .string p.it, .string p.tx, .bool p.bad]] W fun e w' => ∃ u q, e = .returned (.agg (cS (shS p) u q)) ∧ RS w' u q (shS p) ∧ Below W.heap.size W w' := fun W hW => short6_any p au aq nu cu nq cq W (HR.out.keep (up HB1.out hW)) HN.out.1 HN.out.2
  have hO : ∀ W, Below w1.heap.size w1 W → Calls Tryz.prog 7 #[.slice A (mn300 nb) cb] W fun e w' => ∃ u q, e = .returned (.agg (cS (fedS (begS 0) (bs.take 300)).1 u q)) ∧ RS w' u q (fedS (begS 0) (bs.take 300)).1 ∧ Below W.heap.size W w' := fun W hW => some6_any A (mn300 nb) cb (bs.take 300) W ((rd_take HB.out 300).below (up HB1.out hW)) (by rw [List.length_take, ← HNB.out]; unfold mn300; omega) (by unfold mn300; omega)
  obtain ⟨x0, hx0⟩ : ∃ x, shS p = x := ⟨_, rfl⟩
  obtain ⟨x1, hx1⟩ : ∃ x, (fedS (begS 0) (bs.take 300)).1 = x := ⟨_, rfl⟩
  have hl0 := lim_sh p
  have hl1 := lim_fed (begS 0) (bs.take 300)
  rw [hx0] at hS hl0
  rw [hx1] at hO hl1
  clear hx0 hx1
  obtain ⟨st0, utf0, pr0, fi0, pp0, it0, tx0, bad0⟩ := x0
  obtain ⟨st1, utf1, pr1, fi1, pp1, it1, tx1, bad1⟩ := x1
  have HL0 := Lib.hid hl0
  have HL1 := Lib.hid hl1
  clear hl0 hl1
  have HS := Lib.hid hS
  have HO := Lib.hid hO
  have HK := Lib.hid (show ∀ W, Below w1.heap.size w1 W → W.cell? ⟨W0.heap.size, 0, none⟩ = some (.int .i64 p.st) ∧ W.cell? ⟨W0.heap.size, 1, none⟩ = some (.slice au nu cu) ∧ W.cell? ⟨W0.heap.size, 2, none⟩ = some (.int .u8 (p.pr.toNat : Int)) ∧ W.cell? ⟨W0.heap.size, 3, none⟩ = some (.int .u8 (p.fi.toNat : Int)) ∧ W.cell? ⟨W0.heap.size, 4, none⟩ = some (.slice aq nq cq) ∧ W.cell? ⟨W0.heap.size, 5, none⟩ = some (.string p.it) ∧ W.cell? ⟨W0.heap.size, 6, none⟩ = some (.string p.tx) ∧ W.cell? ⟨W0.heap.size, 7, none⟩ = some (.bool p.bad) ∧ Below w1.heap.size w1 W from fun W hW => ⟨(HX1.out.keep hW).cell 0 _ rfl, (HX1.out.keep hW).cell 1 _ rfl, (HX1.out.keep hW).cell 2 _ rfl, (HX1.out.keep hW).cell 3 _ rfl, (HX1.out.keep hW).cell 4 _ rfl, (HX1.out.keep hW).cell 5 _ rfl, (HX1.out.keep hW).cell 6 _ rfl, (HX1.out.keep hW).cell 7 _ rfl, hW⟩)
  have D := (Below.refl w1.heap.size w1).drew
  clear hS hO
  go_cut [25, 26] from 17 to 26 (fun s25 s26 wx => Two w1 s25 s26 wx)
  case first =>
    go_region_held3 (fun W => W.cell? ⟨W0.heap.size, 0, none⟩ = some (.int .i64 p.st) ∧ W.cell? ⟨W0.heap.size, 1, none⟩ = some (.slice au nu cu) ∧ W.cell? ⟨W0.heap.size, 2, none⟩ = some (.int .u8 (p.pr.toNat : Int)) ∧ W.cell? ⟨W0.heap.size, 3, none⟩ = some (.int .u8 (p.fi.toNat : Int)) ∧ W.cell? ⟨W0.heap.size, 4, none⟩ = some (.slice aq nq cq) ∧ W.cell? ⟨W0.heap.size, 5, none⟩ = some (.string p.it) ∧ W.cell? ⟨W0.heap.size, 6, none⟩ = some (.string p.tx) ∧ W.cell? ⟨W0.heap.size, 7, none⟩ = some (.bool p.bad) ∧ Below w1.heap.size w1 W)
      (first | with_reducible exact HK.out _ D | with_reducible exact HK.out _ f3 | with_reducible exact HK.out _ g3 | with_reducible assumption)
      (first
        | (go_at_call 6; (with_reducible refine (HS.out _ D).mono ?_); rintro e W2 ⟨u, q, he0, hp, hb⟩; obtain ⟨Au0, cu0, rfl⟩ := hp.1.form; obtain ⟨Aq0, cq0, rfl⟩ := hp.2.form; have he1 : e = .returned (.agg #[.int .i64 st0, .slice Au0 utf0.length cu0, .int .u8 (pr0.toNat : Int), .int .u8 (fi0.toNat : Int), .slice Aq0 pp0.length cq0, .string it0, .string tx0, .bool bad0]) := he0; clear he0; subst he1; have f3 : Below w1.heap.size w1 W2 := D.trans (hb.mono D.size); have HP0 := Lib.hid hp; have HB0' := Lib.hid hb; clear hp hb)
        | (go_at_call 7; (with_reducible refine (HO.out _ D).mono ?_); rintro e W3 ⟨u, q, he0, hp, hb⟩; obtain ⟨Au1, cu1, rfl⟩ := hp.1.form; obtain ⟨Aq1, cq1, rfl⟩ := hp.2.form; have he1 : e = .returned (.agg #[.int .i64 st1, .slice Au1 utf1.length cu1, .int .u8 (pr1.toNat : Int), .int .u8 (fi1.toNat : Int), .slice Aq1 pp1.length cq1, .string it1, .string tx1, .bool bad1]) := he0; clear he0; subst he1; have g3 : Below w1.heap.size w1 W3 := D.trans (hb.mono D.size); have HP1 := Lib.hid hp; have HB1' := Lib.hid hb; clear hp hb)
        | (go_at_call 7; (with_reducible refine (HO.out _ f3).mono ?_); rintro e W3 ⟨u, q, he0, hp, hb⟩; obtain ⟨Au1, cu1, rfl⟩ := hp.1.form; obtain ⟨Aq1, cq1, rfl⟩ := hp.2.form; have he1 : e = .returned (.agg #[.int .i64 st1, .slice Au1 utf1.length cu1, .int .u8 (pr1.toNat : Int), .int .u8 (fi1.toNat : Int), .slice Aq1 pp1.length cq1, .string it1, .string tx1, .bool bad1]) := he0; clear he0; subst he1; have g3 : Below w1.heap.size w1 W3 := f3.trans (hb.mono f3.size); have HP1 := Lib.hid hp; have HB1' := Lib.hid hb; clear hp hb)
        | (go_at_call 6; (with_reducible refine (HS.out _ g3).mono ?_); rintro e W2 ⟨u, q, he0, hp, hb⟩; obtain ⟨Au0, cu0, rfl⟩ := hp.1.form; obtain ⟨Aq0, cq0, rfl⟩ := hp.2.form; have he1 : e = .returned (.agg #[.int .i64 st0, .slice Au0 utf0.length cu0, .int .u8 (pr0.toNat : Int), .int .u8 (fi0.toNat : Int), .slice Aq0 pp0.length cq0, .string it0, .string tx0, .bool bad0]) := he0; clear he0; subst he1; have f3 : Below w1.heap.size w1 W2 := g3.trans (hb.mono g3.size); have HP0 := Lib.hid hp; have HB0' := Lib.hid hb; clear hp hb))
    · go_wp2_with fail
      go_meet
      case rel => exact ⟨⟨⟨st0, utf0, pr0, fi0, pp0, it0, tx0, bad0⟩, Au0, Aq0, cu0, cq0⟩, ⟨⟨st1, utf1, pr1, fi1, pp1, it1, tx1, bad1⟩, Au1, Aq1, cu1, cq1⟩, rfl, rfl, ⟨HP0.out.keep HB1'.out, HL0.out⟩, ⟨HP1.out, HL1.out⟩, g3⟩
    · go_wp2_with fail
      go_meet
      case rel => exact ⟨⟨⟨st0, utf0, pr0, fi0, pp0, it0, tx0, bad0⟩, Au0, Aq0, cu0, cq0⟩, ⟨⟨st1, utf1, pr1, fi1, pp1, it1, tx1, bad1⟩, Au1, Aq1, cu1, cq1⟩, rfl, rfl, ⟨HP0.out.keep HB1'.out, HL0.out⟩, ⟨HP1.out, HL1.out⟩, g3⟩
  case rest =>
    obtain ⟨x, y, rfl, rfl, hx, hy, hbc⟩ := hcut
    have HX := Lib.hid hx
    have HY := Lib.hid hy
    have HBC := Lib.hid (up HB1.out hbc)
    have hc8 : c.toNat < 256 := c.toNat_lt
    clear hx hy hbc
    go_wp2_with fail
    go_loopw [26] (fun i wr => ∃ k : Nat, k ≤ 2 ∧ i = .int .i64 k ∧ Hid (Below wc.heap.size wc wr)) (fun i _ => 2 - (intOf i).toNat)
    case atStart => exact ⟨0, by decide, rfl, Below.refl _ _⟩
    case round =>
      obtain ⟨k, hk, rfl, hid⟩ := hrel
      by_cases hlt : k < 2
      · have i1 : (k : Int) < 2 := by omega
        obtain ⟨z, hz, ix⟩ := ixP2 x y k hlt
        have hq : okQ wr z := by
          rcases hz with rfl | rfl
          · exact HX.out.keep hid.out
          · exact HY.out.keep hid.out
        have ix := ix wr
        clear hz
        obtain ⟨⟨st, utf, pr, fi, pp, it, tx, bad⟩, au2, aq2, cu2, cq2⟩ := z
        have HQ := Lib.hid hq
        clear hq
        dsimp only at ix
        go_upto_region 4 with fail
        go_wp2_with fail
        have hx3 := Box.new wr #[.int .i64 st, .slice au2 utf.length cu2, .int .u8 (pr.toNat : Int), .int .u8 (fi.toNat : Int), .slice aq2 pp.length cq2, .string it, .string tx, .bool bad] 25
        have hb3 := below_box wr (.cells #[.int .i64 st, .slice au2 utf.length cu2, .int .u8 (pr.toNat : Int), .int .u8 (fi.toNat : Int), .slice aq2 pp.length cq2, .string it, .string tx, .bool bad] 25)
        have HX3 := Lib.hid hx3
        have HB3 := Lib.hid hb3
        clear hx3 hb3
        generalize wr.alloc (.cells #[.int .i64 st, .slice au2 utf.length cu2, .int .u8 (pr.toNat : Int), .int .u8 (fi.toNat : Int), .slice aq2 pp.length cq2, .string it, .string tx, .bool bad] 25) = w3 at HX3 HB3 ⊢
        go_loopw [45] (fun i wr => ∃ j : Nat, j ≤ 8 ∧ i = .int .i64 j ∧ Hid (Below w3.heap.size w3 wr)) (fun i _ => 8 - (intOf i).toNat)
        case atStart => exact ⟨0, by decide, rfl, Below.refl _ _⟩
        case round =>
          obtain ⟨j, hj, rfl, hid2⟩ := hrel
          have hbw2 := up HB3.out hid2.out
          have hbW2 : Below W0.heap.size W0 wr := up (up HBC.out hid.out) hbw2
          by_cases hjl : j < 8
          · have j1 : (j : Int) < 8 := by omega
            obtain ⟨d, ix2⟩ := ixB8 (c.toNat : Int) ((c.toNat : Int) % 32) (32 + (c.toNat : Int) % 16) (48 + (c.toNat : Int) % 16) (64 + (c.toNat : Int) % 63) (128 + (c.toNat : Int) % 128) 27 92 (by omega) (by omega) (by omega) (by omega) (by omega) (by omega) (by decide) (by decide) j hjl
            have ix2 := ix2 wr
            have hl2 := HQ.out.2
            have hs := step6_all ⟨st, utf, pr, fi, pp, it, tx, bad⟩ d au2 aq2 utf.length cu2 pp.length cq2 wr (HQ.out.1.keep hbw2) (HM.out.keep hbW2) (HT.out.keep hbW2) hl2.1 hl2.2.1 hl2.2.2.1 hl2.2.2.2
            have hf : ∀ W, Below wr.heap.size wr W → Calls Tryz.prog 16 #[.agg #[.int .i64 st, .slice au2 utf.length cu2, .int .u8 (pr.toNat : Int), .int .u8 (fi.toNat : Int), .slice aq2 pp.length cq2, .string it, .string tx, .bool bad], .int .u8 (d.toNat : Int)] W (StpPost (stpS ⟨st, utf, pr, fi, pp, it, tx, bad⟩ d) W) := fun W hW => rstep6_any ⟨st, utf, pr, fi, pp, it, tx, bad⟩ d au2 aq2 utf.length cu2 pp.length cq2 W (HQ.out.1.keep (up hbw2 hW)) rfl rfl hl2.kp
            have hkv := kv_stp ⟨st, utf, pr, fi, pp, it, tx, bad⟩ d
            have hlm := lim_stp ⟨st, utf, pr, fi, pp, it, tx, bad⟩ d
            generalize stpS ⟨st, utf, pr, fi, pp, it, tx, bad⟩ d = r at *
            obtain ⟨⟨gst, gutf, gpr, gfi, gps, git, gtx, gbad⟩, gl, ge⟩ := r
            unfold cS at hs
            dsimp only at hs hkv hlm
            have HS2 := Lib.hid hs
            have HF2 := Lib.hid hf
            have HKV := Lib.hid hkv
            have HLM := Lib.hid hlm
            have hx4 := HX3.out.keep hid2.out
            have x0 := hx4.cell 0 _ rfl
            have x1 := hx4.cell 1 _ rfl
            have x2 := hx4.cell 2 _ rfl
            have x3 := hx4.cell 3 _ rfl
            have x4 := hx4.cell 4 _ rfl
            have x5 := hx4.cell 5 _ rfl
            have x6 := hx4.cell 6 _ rfl
            have x7 := hx4.cell 7 _ rfl
            have HX4 := Lib.hid hx4
            clear hs hf hkv hlm hl2 hx4
            go_upto_region 8 with (go_at_call 15; refine HS2.out.mono ?_; rintro e w4 ⟨u, q, v, he0, hp, hv, hb⟩; obtain ⟨Au4, cu4, hu⟩ := hp.1.form; obtain ⟨Aq4, cq4, hq⟩ := hp.2.form; obtain ⟨Av4, cv4, hv1⟩ := hv.form; dsimp only at hu hq hv1; subst hu; subst hq; subst hv1; have he1 : e = .returned (.tuple #[.agg #[.int .i64 gst, .slice Au4 gutf.length cu4, .int .u8 (gpr.toNat : Int), .int .u8 (gfi.toNat : Int), .slice Aq4 gps.length cq4, .string git, .string gtx, .bool gbad], .slice Av4 gl.length cv4, .int .i64 ge]) := he0; clear he0; subst he1; have HP4 := Lib.hid hp; have HV4 := Lib.hid hv; have HB4 := Lib.hid hb; clear hp hv hb)
            have hx5 := Box.new w4 #[.int .i64 gst, .slice Au4 gutf.length cu4, .int .u8 (gpr.toNat : Int), .int .u8 (gfi.toNat : Int), .slice Aq4 gps.length cq4, .string git, .string gtx, .bool gbad] 25
            have hb5 := below_box w4 (.cells #[.int .i64 gst, .slice Au4 gutf.length cu4, .int .u8 (gpr.toNat : Int), .int .u8 (gfi.toNat : Int), .slice Aq4 gps.length cq4, .string git, .string gtx, .bool gbad] 25)
            have HX5 := Lib.hid hx5
            have HB5 := Lib.hid (up HB4.out hb5)
            have HP5 := Lib.hid (HP4.out.keep hb5)
            have HV5 := Lib.hid (HV4.out.keep hb5)
            have hx4 := HX4.out.keep HB5.out
            clear hx5 hb5 x0 x1 x2 x3 x4 x5 x6 x7
            generalize w4.alloc (.cells #[.int .i64 gst, .slice Au4 gutf.length cu4, .int .u8 (gpr.toNat : Int), .int .u8 (gfi.toNat : Int), .slice Aq4 gps.length cq4, .string git, .string gtx, .bool gbad] 25) = w5 at HX5 HB5 HP5 HV5 hx4 ⊢
            have x0 := hx4.cell 0 _ rfl
            have x1 := hx4.cell 1 _ rfl
            have x2 := hx4.cell 2 _ rfl
            have x3 := hx4.cell 3 _ rfl
            have x4 := hx4.cell 4 _ rfl
            have x5 := hx4.cell 5 _ rfl
            have x6 := hx4.cell 6 _ rfl
            have x7 := hx4.cell 7 _ rfl
            clear hx4
            go_upto_region 9 with (go_at_call 16; refine (HF2.out _ HB5.out).mono ?_; rintro e w6 ⟨u, q, v, he0, hp, hv, hb⟩; obtain ⟨Au6, cu6, hu⟩ := hp.1.form; obtain ⟨Aq6, cq6, hq⟩ := hp.2.form; obtain ⟨Av6, cv6, hv1⟩ := hv.form; dsimp only at hu hq hv1; subst hu; subst hq; subst hv1; have he1 : e = .returned (.tuple #[.agg #[.int .i64 gst, .slice Au6 gutf.length cu6, .int .u8 (gpr.toNat : Int), .int .u8 (gfi.toNat : Int), .slice Aq6 gps.length cq6, .string git, .string gtx, .bool gbad], .slice Av6 gl.length cv6, .int .i64 ge]) := he0; clear he0; subst he1; have HP6 := Lib.hid hp; have HV6 := Lib.hid hv; have HB6 := Lib.hid hb; clear hp hv hb)
            have hx7 := Box.new w6 #[.int .i64 gst, .slice Au6 gutf.length cu6, .int .u8 (gpr.toNat : Int), .int .u8 (gfi.toNat : Int), .slice Aq6 gps.length cq6, .string git, .string gtx, .bool gbad] 25
            have hb7 := below_box w6 (.cells #[.int .i64 gst, .slice Au6 gutf.length cu6, .int .u8 (gpr.toNat : Int), .int .u8 (gfi.toNat : Int), .slice Aq6 gps.length cq6, .string git, .string gtx, .bool gbad] 25)
            have HX7 := Lib.hid hx7
            have HB7 := Lib.hid (up HB6.out hb7)
            have HP7 := Lib.hid (HP6.out.keep hb7)
            have HV7 := Lib.hid (HV6.out.keep hb7)
            clear hx7 hb7 x0 x1 x2 x3 x4 x5 x6 x7
            generalize w6.alloc (.cells #[.int .i64 gst, .slice Au6 gutf.length cu6, .int .u8 (gpr.toNat : Int), .int .u8 (gfi.toNat : Int), .slice Aq6 gps.length cq6, .string git, .string gtx, .bool gbad] 25) = w7 at HX7 HB7 HP7 HV7 ⊢
            have hy7 := HX5.out.keep HB7.out
            have hx7 := HX7.out
            have x0 := hy7.cell 0 _ rfl
            have x1 := hy7.cell 1 _ rfl
            have x2 := hy7.cell 2 _ rfl
            have x3 := hy7.cell 3 _ rfl
            have x4 := hy7.cell 4 _ rfl
            have x5 := hy7.cell 5 _ rfl
            have x6 := hy7.cell 6 _ rfl
            have x7 := hy7.cell 7 _ rfl
            have y0 := hx7.cell 0 _ rfl
            have y1 := hx7.cell 1 _ rfl
            have y2 := hx7.cell 2 _ rfl
            have y3 := hx7.cell 3 _ rfl
            have y4 := hx7.cell 4 _ rfl
            have y5 := hx7.cell 5 _ rfl
            have y6 := hx7.cell 6 _ rfl
            have y7 := hx7.cell 7 _ rfl
            have hsm : Calls Tryz.prog 11 #[.agg #[.int .i64 gst, .slice Au4 gutf.length cu4, .int .u8 (gpr.toNat : Int), .int .u8 (gfi.toNat : Int), .slice Aq4 gps.length cq4, .string git, .string gtx, .bool gbad], .agg #[.int .i64 gst, .slice Au6 gutf.length cu6, .int .u8 (gpr.toNat : Int), .int .u8 (gfi.toNat : Int), .slice Aq6 gps.length cq6, .string git, .string gtx, .bool gbad]] w7 fun e w' => e = .returned (.bool true) ∧ Below w7.heap.size w7 w' := rsame_yes (Prs.of (HP5.out.keep HB7.out) HLM.out) (Prs.of HP7.out HLM.out)
            have HSM := Lib.hid hsm
            have HEV := Lib.hid (show ∀ W, Below w7.heap.size w7 W → Calls Tryz.prog 17 #[.slice Av4 gl.length cv4, .slice Av6 gl.length cv6] W fun e w' => e = .returned (.bool true) ∧ Below W.heap.size W w' from fun W hW => revents_yes (HV5.out.keep (up HB7.out hW)) (HV7.out.keep hW) HKV.out)
            clear hsm hx7 hy7
            go_wp2_with (first
              | (go_at_call 11; refine HSM.out.mono ?_; rintro e w8 ⟨rfl, hb8⟩; have HB8 := Lib.hid hb8; clear hb8)
              | (go_at_call 17; refine (HEV.out _ HB8.out).mono ?_; rintro e w9 ⟨rfl, hb9⟩; have HB9 := Lib.hid hb9; clear hb9))
            refine ⟨⟨j + 1, by omega, by go_num, up hid2.out (up HB5.out (up HB7.out (up HB8.out HB9.out)))⟩, by simp [intOf]; omega⟩
          · have hj8 : j = 8 := by omega
            subst hj8
            go_wp2_with fail
            go_roundw
            case rel => exact ⟨k + 1, by omega, by go_num, up hid.out hbw2⟩
            case measure => simp [intOf]; omega
      · have hk2 : k = 2 := by omega
        subst hk2
        have hbe := up HBC.out hid.out
        have HWK := Lib.hid (works_any wr (HM.out.keep hbe) (HT.out.keep hbe))
        go_wp2_with (go_at_call 14; refine HWK.out.mono ?_; rintro e w9 ⟨rfl, hb9⟩; have HB9 := Lib.hid (up hbe hb9); clear hb9)
        go_ret
        exact ⟨rfl, HB9.out⟩
end Go.Proofs.YtmboekpomjgnnaaGreatDoor.Sta
