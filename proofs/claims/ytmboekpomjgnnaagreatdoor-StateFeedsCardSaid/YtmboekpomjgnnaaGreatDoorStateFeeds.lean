/-
  The walk of StateFeeds.
-/
import Derived.Deep.RegionHeld3
import Derived.Test.YtmboekpomjgnnaaGreatDoorF51
namespace Go.Proofs.YtmboekpomjgnnaaGreatDoor.Sta
open Go.RowKit Utf Par
attribute [local go_sem] min_400

/-- a parse and where its slices lie -/
structure Q8 where
  p : PS
  au : Option Addr
  aq : Option Addr
  cu : Nat
  cq : Nat
def okQ (w : World) (z : Q8) : Prop := RS w (.slice z.au z.p.utf.length z.cu) (.slice z.aq z.p.ps.length z.cq) z.p ∧ Lim z.p
theorem okQ.keep {w w' : World} {z : Q8} (h : okQ w z) (hb : Below w.heap.size w w') : okQ w' z := ⟨h.1.keep hb, h.2⟩
theorem ixP3 (x y : Q8) (W1 : World) (hx : okQ W1 x) (hy : okQ W1 y) (k : Nat) (hk : k < 3) : ∃ z, okQ W1 z ∧ ∀ W, (Instr.index 46 (.agg #[.int .i64 x.p.st, .slice x.au x.p.utf.length x.cu, .int .u8 (x.p.pr.toNat : Int), .int .u8 (x.p.fi.toNat : Int), .slice x.aq x.p.ps.length x.cq, .string x.p.it, .string x.p.tx, .bool x.p.bad, .int .i64 y.p.st, .slice y.au y.p.utf.length y.cu, .int .u8 (y.p.pr.toNat : Int), .int .u8 (y.p.fi.toNat : Int), .slice y.aq y.p.ps.length y.cq, .string y.p.it, .string y.p.tx, .bool y.p.bad, .int .i64 0, .slice none 0 0, .int .u8 0, .int .u8 0, .slice none 0 0, .string ⟨#[]⟩, .string ⟨#[]⟩, .bool false]) (.int .i64 (k : Int))).run Tryz.prog W = .ok (.agg #[.int .i64 z.p.st, .slice z.au z.p.utf.length z.cu, .int .u8 (z.p.pr.toNat : Int), .int .u8 (z.p.fi.toNat : Int), .slice z.aq z.p.ps.length z.cq, .string z.p.it, .string z.p.tx, .bool z.p.bad]) W := by
  rcases (show k = 0 ∨ k = 1 ∨ k = 2 by omega) with rfl | rfl | rfl
  · exact ⟨x, hx, fun _ => by kernel_rfl⟩
  · exact ⟨y, hy, fun _ => by kernel_rfl⟩
  · exact ⟨⟨begS 0, none, none, 0, 0⟩, ⟨RS.nil _ _ rfl rfl, lim_beg 0⟩, fun _ => by kernel_rfl⟩
set_option maxRecDepth 100000 in
set_option maxHeartbeats 8000000 in
theorem feeds6_any (p : PS) (au aq A B : Option Addr) (nu cu nq cq na ca nb cb : Nat) (xs bs : List UInt8) (W0 : World) (hr : RS W0 (.slice au nu cu) (.slice aq nq cq) p) (h1 : nu = p.utf.length) (h2 : nq = p.ps.length)
    (ha : Rd W0 A (cB xs)) (hna : na = xs.length) (hca : na ≤ ca) (hb : Rd W0 B (cB bs)) (hnb : nb = bs.length) (hcb : nb ≤ cb) (hm : Mk W0) (ht : Tf W0) :
    Calls Tryz.prog 5 #[.agg (cS p (.slice au nu cu) (.slice aq nq cq)), .slice A na ca, .slice B nb cb] W0 fun e w' => e = .returned (.bool true) ∧ Below W0.heap.size W0 w' := by
  unfold cS
  have hx1 := Box.new W0 #[.int .i64 p.st, .slice au nu cu, .int .u8 (p.pr.toNat : Int), .int .u8 (p.fi.toNat : Int), .slice aq nq cq, .string p.it, .string p.tx, .bool p.bad] 25
  have hb1 := below_box W0 (.cells #[.int .i64 p.st, .slice au nu cu, .int .u8 (p.pr.toNat : Int), .int .u8 (p.fi.toNat : Int), .slice aq nq cq, .string p.it, .string p.tx, .bool p.bad] 25)
  have HR := Lib.hid hr
  have HN := Lib.hid (And.intro h1 h2)
  have HA := Lib.hid ha
  have HB := Lib.hid hb
  have HNA := Lib.hid hna
  have HNB := Lib.hid hnb
  have HM := Lib.hid hm
  have HT := Lib.hid ht
  have HX1 := Lib.hid hx1
  have HB1 := Lib.hid hb1
  have m1 : (mn400 na : Int) ≤ (ca : Int) := by unfold mn400; omega
  have m2 : (mn400 nb : Int) ≤ (cb : Int) := by unfold mn400; omega
  clear hr h1 h2 ha hb hna hnb hm ht hx1 hb1
  go_enter Tryz.func5, Tryz.ntmps5
  go_upto_region 1 with fail
  generalize W0.alloc (.cells #[.int .i64 p.st, .slice au nu cu, .int .u8 (p.pr.toNat : Int), .int .u8 (p.fi.toNat : Int), .slice aq nq cq, .string p.it, .string p.tx, .bool p.bad] 25) = w1 at HX1 HB1 ⊢
  go_region
  have HX2 := Lib.hid HX1.out.drew
  have HB2 := Lib.hid (HB1.out.drew)
  clear HX1 HB1
  generalize w1.drew = w2 at HX2 HB2 ⊢
  have hS : Calls Tryz.prog 6 #[.agg #[.int .i64 p.st, .slice au nu cu, .int .u8 (p.pr.toNat : Int), .int .u8 (p.fi.toNat : Int), .slice aq nq cq, .string p.it, .string p.tx, .bool p.bad]] w2 fun e w' => ∃ u q, e = .returned (.agg (cS (shS p) u q)) ∧ RS w' u q (shS p) ∧ Below w2.heap.size w2 w' := short6_any p au aq nu cu nq cq w2 (HR.out.keep HB2.out) HN.out.1 HN.out.2
  have hO : ∀ W, Below w2.heap.size w2 W → Calls Tryz.prog 7 #[.slice A (mn400 na) ca] W fun e w' => ∃ u q, e = .returned (.agg (cS (fedS (begS 0) (xs.take 400)).1 u q)) ∧ RS w' u q (fedS (begS 0) (xs.take 400)).1 ∧ Below W.heap.size W w' := fun W hW => some6_any A (mn400 na) ca (xs.take 400) W ((rd_take HA.out 400).below (up HB2.out hW)) (by rw [List.length_take, ← HNA.out]; unfold mn400; omega) (by unfold mn400; omega)
  obtain ⟨x0, hx0⟩ : ∃ x, shS p = x := ⟨_, rfl⟩
  obtain ⟨x1, hx1⟩ : ∃ x, (fedS (begS 0) (xs.take 400)).1 = x := ⟨_, rfl⟩
  have hl0 := lim_sh p
  have hl1 := lim_fed (begS 0) (xs.take 400)
  rw [hx0] at hS hl0
  rw [hx1] at hO hl1
  clear hx0 hx1
  obtain ⟨st0, utf0, pr0, fi0, pp0, it0, tx0, bad0⟩ := x0
  obtain ⟨st1, utf1, pr1, fi1, pp1, it1, tx1, bad1⟩ := x1
  have HL0 := Lib.hid hl0
  have HL1 := Lib.hid hl1
  have HS := Lib.hid hS
  have HO := Lib.hid hO
  have hx2 := HX2.out
  have x0 := hx2.cell 0 _ rfl
  have x1 := hx2.cell 1 _ rfl
  have x2 := hx2.cell 2 _ rfl
  have x3 := hx2.cell 3 _ rfl
  have x4 := hx2.cell 4 _ rfl
  have x5 := hx2.cell 5 _ rfl
  have x6 := hx2.cell 6 _ rfl
  have x7 := hx2.cell 7 _ rfl
  clear hS hO hl0 hl1 hx2
  go_wp2_with (first
    | (go_at_call 6; refine HS.out.mono ?_; rintro e w3 ⟨u, q, he0, hp, hb⟩; obtain ⟨Au0, cu0, hu⟩ := hp.1.form; obtain ⟨Aq0, cq0, hq⟩ := hp.2.form; dsimp only at hu hq; subst hu; subst hq; have he1 : e = .returned (.agg #[.int .i64 st0, .slice Au0 utf0.length cu0, .int .u8 (pr0.toNat : Int), .int .u8 (fi0.toNat : Int), .slice Aq0 pp0.length cq0, .string it0, .string tx0, .bool bad0]) := he0; clear he0; subst he1; have HP0 := Lib.hid hp; have HB3 := Lib.hid hb; clear hp hb)
    | (go_at_call 7; refine (HO.out _ HB3.out).mono ?_; rintro e w4 ⟨u, q, he0, hp, hb⟩; obtain ⟨Au1, cu1, hu⟩ := hp.1.form; obtain ⟨Aq1, cq1, hq⟩ := hp.2.form; dsimp only at hu hq; subst hu; subst hq; have he1 : e = .returned (.agg #[.int .i64 st1, .slice Au1 utf1.length cu1, .int .u8 (pr1.toNat : Int), .int .u8 (fi1.toNat : Int), .slice Aq1 pp1.length cq1, .string it1, .string tx1, .bool bad1]) := he0; clear he0; subst he1; have HP1 := Lib.hid hp; have HB4 := Lib.hid hb; clear hp hb))
  have HQ0 := Lib.hid (show okQ w4 ⟨⟨st0, utf0, pr0, fi0, pp0, it0, tx0, bad0⟩, Au0, Aq0, cu0, cq0⟩ from ⟨HP0.out.keep HB4.out, HL0.out⟩)
  have HQ1 := Lib.hid (show okQ w4 ⟨⟨st1, utf1, pr1, fi1, pp1, it1, tx1, bad1⟩, Au1, Aq1, cu1, cq1⟩ from ⟨HP1.out, HL1.out⟩)
  have HBC := Lib.hid (up (up HB2.out HB3.out) HB4.out)
  clear x0 x1 x2 x3 x4 x5 x6 x7
  go_loopw [31] (fun i wr => ∃ k : Nat, k ≤ 3 ∧ i = .int .i64 k ∧ Hid (Below w4.heap.size w4 wr)) (fun i _ => 3 - (intOf i).toNat)
  case atStart => exact ⟨0, by decide, rfl, Below.refl _ _⟩
  case round =>
    obtain ⟨k, hk, rfl, hid⟩ := hrel
    have hbe := up HBC.out hid.out
    by_cases hlt : k < 3
    · have i1 : (k : Int) < 3 := by omega
      obtain ⟨z, hz, ix⟩ := ixP3 ⟨⟨st0, utf0, pr0, fi0, pp0, it0, tx0, bad0⟩, Au0, Aq0, cu0, cq0⟩ ⟨⟨st1, utf1, pr1, fi1, pp1, it1, tx1, bad1⟩, Au1, Aq1, cu1, cq1⟩ w4 HQ0.out HQ1.out k hlt
      have hq := hz.keep hid.out
      have ix := ix wr
      clear hz
      obtain ⟨⟨st, utf, pr, fi, pp, it, tx, bad⟩, au2, aq2, cu2, cq2⟩ := z
      dsimp only at ix
      obtain ⟨hq1, hl2⟩ := hq
      dsimp only at hq1 hl2
      have hlen : mn400 nb = (bs.take 400).length := by rw [List.length_take, ← HNB.out]; unfold mn400; omega
      have hsm4 : mn400 nb ≤ 1000000 := by unfold mn400; omega
      have hs : ∀ W, Below wr.heap.size wr W → Calls Tryz.prog 18 #[.agg #[.int .i64 st, .slice au2 utf.length cu2, .int .u8 (pr.toNat : Int), .int .u8 (fi.toNat : Int), .slice aq2 pp.length cq2, .string it, .string tx, .bool bad], .slice B (mn400 nb) cb] W (StpPost (fedS ⟨st, utf, pr, fi, pp, it, tx, bad⟩ (bs.take 400)) W) := fun W hW => feed_prs (p := ⟨st, utf, pr, fi, pp, it, tx, bad⟩) ⟨au2, aq2, cu2, cq2, rfl, hq1.keep hW, hl2⟩ (HM.out.keep (up hbe hW)) (HT.out.keep (up hbe hW)) B (mn400 nb) cb (bs.take 400) ((rd_take HB.out 400).below (up hbe hW)) hlen hsm4
      have hf : ∀ W, Below wr.heap.size wr W → Calls Tryz.prog 19 #[.agg #[.int .i64 st, .slice au2 utf.length cu2, .int .u8 (pr.toNat : Int), .int .u8 (fi.toNat : Int), .slice aq2 pp.length cq2, .string it, .string tx, .bool bad], .slice B (mn400 nb) cb] W (StpPost (fedS ⟨st, utf, pr, fi, pp, it, tx, bad⟩ (bs.take 400)) W) := fun W hW => rfeed_prs (p := ⟨st, utf, pr, fi, pp, it, tx, bad⟩) ⟨au2, aq2, cu2, cq2, rfl, hq1.keep hW, hl2⟩ B (mn400 nb) cb (bs.take 400) ((rd_take HB.out 400).below (up hbe hW)) hlen hsm4
      have hkv := (fed_kv ⟨st, utf, pr, fi, pp, it, tx, bad⟩ (bs.take 400)).1
      have hlm := lim_fed ⟨st, utf, pr, fi, pp, it, tx, bad⟩ (bs.take 400)
      generalize fedS ⟨st, utf, pr, fi, pp, it, tx, bad⟩ (bs.take 400) = r at *
      obtain ⟨⟨gst, gutf, gpr, gfi, gps, git, gtx, gbad⟩, gl, ge⟩ := r
      dsimp only at hkv hlm
      have HS2 := Lib.hid hs
      have HF2 := Lib.hid hf
      have HKV := Lib.hid hkv
      have HLM := Lib.hid hlm
      clear hs hf hkv hlm hl2 hq1 hlen hsm4
      go_upto_region 5 with fail
      have hx3 := Box.new wr #[.int .i64 st, .slice au2 utf.length cu2, .int .u8 (pr.toNat : Int), .int .u8 (fi.toNat : Int), .slice aq2 pp.length cq2, .string it, .string tx, .bool bad] 25
      have hb3 := below_box wr (.cells #[.int .i64 st, .slice au2 utf.length cu2, .int .u8 (pr.toNat : Int), .int .u8 (fi.toNat : Int), .slice aq2 pp.length cq2, .string it, .string tx, .bool bad] 25)
      have HX3 := Lib.hid hx3
      have HB3' := Lib.hid hb3
      generalize wr.alloc (.cells #[.int .i64 st, .slice au2 utf.length cu2, .int .u8 (pr.toNat : Int), .int .u8 (fi.toNat : Int), .slice aq2 pp.length cq2, .string it, .string tx, .bool bad] 25) = w5 at HX3 HB3' hx3 ⊢
      have x0 := hx3.cell 0 _ rfl
      have x1 := hx3.cell 1 _ rfl
      have x2 := hx3.cell 2 _ rfl
      have x3 := hx3.cell 3 _ rfl
      have x4 := hx3.cell 4 _ rfl
      have x5 := hx3.cell 5 _ rfl
      have x6 := hx3.cell 6 _ rfl
      have x7 := hx3.cell 7 _ rfl
      clear hx3 hb3
      go_upto_region 6 with (go_at_call 18; refine (HS2.out _ HB3'.out).mono ?_; rintro e w6 ⟨u, q, v, he0, hp, hv, hb⟩; obtain ⟨Au6, cu6, hu⟩ := hp.1.form; obtain ⟨Aq6, cq6, hq⟩ := hp.2.form; obtain ⟨Av6, cv6, hv1⟩ := hv.form; dsimp only at hu hq hv1; subst hu; subst hq; subst hv1; have he1 : e = .returned (.tuple #[.agg #[.int .i64 gst, .slice Au6 gutf.length cu6, .int .u8 (gpr.toNat : Int), .int .u8 (gfi.toNat : Int), .slice Aq6 gps.length cq6, .string git, .string gtx, .bool gbad], .slice Av6 gl.length cv6, .int .i64 ge]) := he0; clear he0; subst he1; have HP6 := Lib.hid hp; have HV6 := Lib.hid hv; have HB6 := Lib.hid hb; clear hp hv hb)
      have hx7 := Box.new w6 #[.int .i64 gst, .slice Au6 gutf.length cu6, .int .u8 (gpr.toNat : Int), .int .u8 (gfi.toNat : Int), .slice Aq6 gps.length cq6, .string git, .string gtx, .bool gbad] 25
      have hb7 := below_box w6 (.cells #[.int .i64 gst, .slice Au6 gutf.length cu6, .int .u8 (gpr.toNat : Int), .int .u8 (gfi.toNat : Int), .slice Aq6 gps.length cq6, .string git, .string gtx, .bool gbad] 25)
      have HX7 := Lib.hid hx7
      have HB7 := Lib.hid (up HB6.out hb7)
      have HP7 := Lib.hid (HP6.out.keep hb7)
      have HV7 := Lib.hid (HV6.out.keep hb7)
      have hx4 := HX3.out.keep HB7.out
      clear hx7 hb7 x0 x1 x2 x3 x4 x5 x6 x7
      generalize w6.alloc (.cells #[.int .i64 gst, .slice Au6 gutf.length cu6, .int .u8 (gpr.toNat : Int), .int .u8 (gfi.toNat : Int), .slice Aq6 gps.length cq6, .string git, .string gtx, .bool gbad] 25) = w7 at HX7 HB7 HP7 HV7 hx4 ⊢
      have x0 := hx4.cell 0 _ rfl
      have x1 := hx4.cell 1 _ rfl
      have x2 := hx4.cell 2 _ rfl
      have x3 := hx4.cell 3 _ rfl
      have x4 := hx4.cell 4 _ rfl
      have x5 := hx4.cell 5 _ rfl
      have x6 := hx4.cell 6 _ rfl
      have x7 := hx4.cell 7 _ rfl
      clear hx4
      go_upto_region 7 with (go_at_call 19; refine (HF2.out _ (up HB3'.out HB7.out)).mono ?_; rintro e w8 ⟨u, q, v, he0, hp, hv, hb⟩; obtain ⟨Au8, cu8, hu⟩ := hp.1.form; obtain ⟨Aq8, cq8, hq⟩ := hp.2.form; obtain ⟨Av8, cv8, hv1⟩ := hv.form; dsimp only at hu hq hv1; subst hu; subst hq; subst hv1; have he1 : e = .returned (.tuple #[.agg #[.int .i64 gst, .slice Au8 gutf.length cu8, .int .u8 (gpr.toNat : Int), .int .u8 (gfi.toNat : Int), .slice Aq8 gps.length cq8, .string git, .string gtx, .bool gbad], .slice Av8 gl.length cv8, .int .i64 ge]) := he0; clear he0; subst he1; have HP8 := Lib.hid hp; have HV8 := Lib.hid hv; have HB8 := Lib.hid hb; clear hp hv hb)
      have hx9 := Box.new w8 #[.int .i64 gst, .slice Au8 gutf.length cu8, .int .u8 (gpr.toNat : Int), .int .u8 (gfi.toNat : Int), .slice Aq8 gps.length cq8, .string git, .string gtx, .bool gbad] 25
      have hb9 := below_box w8 (.cells #[.int .i64 gst, .slice Au8 gutf.length cu8, .int .u8 (gpr.toNat : Int), .int .u8 (gfi.toNat : Int), .slice Aq8 gps.length cq8, .string git, .string gtx, .bool gbad] 25)
      have HX9 := Lib.hid hx9
      have HB9 := Lib.hid (up HB8.out hb9)
      have HP9 := Lib.hid (HP8.out.keep hb9)
      have HV9 := Lib.hid (HV8.out.keep hb9)
      clear hx9 hb9 x0 x1 x2 x3 x4 x5 x6 x7
      generalize w8.alloc (.cells #[.int .i64 gst, .slice Au8 gutf.length cu8, .int .u8 (gpr.toNat : Int), .int .u8 (gfi.toNat : Int), .slice Aq8 gps.length cq8, .string git, .string gtx, .bool gbad] 25) = w9 at HX9 HB9 HP9 HV9 ⊢
      have hy9 := HX7.out.keep HB9.out
      have hx9 := HX9.out
      have x0 := hy9.cell 0 _ rfl
      have x1 := hy9.cell 1 _ rfl
      have x2 := hy9.cell 2 _ rfl
      have x3 := hy9.cell 3 _ rfl
      have x4 := hy9.cell 4 _ rfl
      have x5 := hy9.cell 5 _ rfl
      have x6 := hy9.cell 6 _ rfl
      have x7 := hy9.cell 7 _ rfl
      have y0 := hx9.cell 0 _ rfl
      have y1 := hx9.cell 1 _ rfl
      have y2 := hx9.cell 2 _ rfl
      have y3 := hx9.cell 3 _ rfl
      have y4 := hx9.cell 4 _ rfl
      have y5 := hx9.cell 5 _ rfl
      have y6 := hx9.cell 6 _ rfl
      have y7 := hx9.cell 7 _ rfl
      have hsm : Calls Tryz.prog 11 #[.agg #[.int .i64 gst, .slice Au6 gutf.length cu6, .int .u8 (gpr.toNat : Int), .int .u8 (gfi.toNat : Int), .slice Aq6 gps.length cq6, .string git, .string gtx, .bool gbad], .agg #[.int .i64 gst, .slice Au8 gutf.length cu8, .int .u8 (gpr.toNat : Int), .int .u8 (gfi.toNat : Int), .slice Aq8 gps.length cq8, .string git, .string gtx, .bool gbad]] w9 fun e w' => e = .returned (.bool true) ∧ Below w9.heap.size w9 w' := rsame_yes (Prs.of (HP7.out.keep HB9.out) HLM.out) (Prs.of HP9.out HLM.out)
      have HSM := Lib.hid hsm
      have HEV := Lib.hid (show ∀ W, Below w9.heap.size w9 W → Calls Tryz.prog 17 #[.slice Av6 gl.length cv6, .slice Av8 gl.length cv8] W fun e w' => e = .returned (.bool true) ∧ Below W.heap.size W w' from fun W hW => revents_yes (HV7.out.keep (up HB9.out hW)) (HV9.out.keep hW) HKV.out)
      clear hsm hx9 hy9
      go_wp2_with (first
        | (go_at_call 11; refine HSM.out.mono ?_; rintro e w10 ⟨rfl, hb10⟩; have HB10 := Lib.hid hb10; clear hb10)
        | (go_at_call 17; refine (HEV.out _ HB10.out).mono ?_; rintro e w11 ⟨rfl, hb11⟩; have HB11 := Lib.hid hb11; clear hb11))
      exact ⟨⟨k + 1, by omega, by go_num, up hid.out (up HB3'.out (up HB7.out (up HB9.out (up HB10.out HB11.out))))⟩, by simp [intOf]; omega⟩
    · have hk3 : k = 3 := by omega
      subst hk3
      have HWK := Lib.hid (works_any wr (HM.out.keep hbe) (HT.out.keep hbe))
      go_wp2_with (go_at_call 14; refine HWK.out.mono ?_; rintro e w9 ⟨rfl, hb9⟩; have HB9 := Lib.hid (up hbe hb9); clear hb9)
      go_ret
      exact ⟨rfl, HB9.out⟩
end Go.Proofs.YtmboekpomjgnnaaGreatDoor.Sta
