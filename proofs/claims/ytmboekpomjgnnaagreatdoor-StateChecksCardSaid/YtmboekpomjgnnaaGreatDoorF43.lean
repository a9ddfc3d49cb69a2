/-
  StaNe StaNf StaNg StaNh StaNi StaNj StaOb
-/
import Derived.Test.YtmboekpomjgnnaaGreatDoorF11
import Derived.Test.YtmboekpomjgnnaaGreatDoorF22
import Derived.Test.YtmboekpomjgnnaaGreatDoorF39
import Derived.Test.YtmboekpomjgnnaaGreatDoorF42
import Derived.Test.YtmboekpomjgnnaaGreatDoorF47
namespace Go.Proofs.YtmboekpomjgnnaaGreatDoor.Sta
open Go.RowKit Utf Par

set_option maxRecDepth 100000 in
set_option maxHeartbeats 8000000 in
theorem one_u_0 (p : PS) (b : UInt8) (au aq : Option Addr) (nu cu nq cq : Nat) (w0 w : World) (hr : RS w0 (.slice au nu cu) (.slice aq nq cq) p) (hw : Pre w0 w) (hs : p.st = 0) (hq : p.utf ≠ []) (hl : p.utf.length ≤ 100000) :
    Calls Tryz.prog 31 #[.agg (cS p (.slice au nu cu) (.slice aq nq cq)), .int .u8 (b.toNat : Int)] w (Ret2 (prtS p.utf b) w0 w) := by
  have HRS := Lib.hid hr
  have hnu : nu = p.utf.length := by
    obtain ⟨A9, c9, e9, -⟩ := hr.1
    cases e9
    rfl
  clear hr
  have HW0 := Lib.hid hw; clear hw
  obtain ⟨st, utf, pr, fi, pp, it, tx, bad⟩ := p
  dsimp only at *
  subst hs
  have q0 : 0 < nu := by rw [hnu]; exact List.length_pos_iff.2 hq
  have q1 : (0 : Int) < (nu : Int) := by omega
  have HPR := Lib.hid (fun au aq nu cu nq cq w0 w h1 h2 => prints_any ⟨0, utf, pr, fi, pp, it, tx, bad⟩ b au aq nu cu nq cq w0 w h1 h2 hl)
  clear hnu hq hl
  have HV1 := Lib.hid (show hasB 0 [7, 12, 14] = false by decide)
  have HV2 := Lib.hid (show hasB 0 [6, 11, 13] = false by decide)
  unfold cS
  dsimp only at *
  have HX0 := Lib.hid ((Box.new w #[.int .i64 0, .slice au nu cu, .int .u8 (pr.toNat : Int), .int .u8 (fi.toNat : Int), .slice aq nq cq, .string it, .string tx, .bool bad] 25).alloc (.cells #[.int .i64 0, .slice none 0 0, .int .u8 0, .int .u8 0, .slice none 0 0, .string ⟨#[]⟩, .string ⟨#[]⟩, .bool false] 25))
  have hx1 := Box.new (w.alloc (.cells #[.int .i64 0, .slice au nu cu, .int .u8 (pr.toNat : Int), .int .u8 (fi.toNat : Int), .slice aq nq cq, .string it, .string tx, .bool bad] 25)) #[.int .i64 0, .slice none 0 0, .int .u8 0, .int .u8 0, .slice none 0 0, .string ⟨#[]⟩, .string ⟨#[]⟩, .bool false] 25
  rw [World.size_alloc] at hx1
  have HX1 := Lib.hid hx1
  have HB1 := Lib.hid (show Below w.heap.size w ((w.alloc (.cells #[.int .i64 0, .slice au nu cu, .int .u8 (pr.toNat : Int), .int .u8 (fi.toNat : Int), .slice aq nq cq, .string it, .string tx, .bool bad] 25)).alloc (.cells #[.int .i64 0, .slice none 0 0, .int .u8 0, .int .u8 0, .slice none 0 0, .string ⟨#[]⟩, .string ⟨#[]⟩, .bool false] 25)) from up (below_box _ _) (below_box _ _))
  clear hx1
  have a0 := HX0.out.cell 0 _ rfl
  have a1 := HX0.out.cell 1 _ rfl
  have a2 := HX0.out.cell 2 _ rfl
  have a3 := HX0.out.cell 3 _ rfl
  have a4 := HX0.out.cell 4 _ rfl
  have a5 := HX0.out.cell 5 _ rfl
  have a6 := HX0.out.cell 6 _ rfl
  have a7 := HX0.out.cell 7 _ rfl
  have g0 := HX0.out.free 0 (by show 0 < 8; decide)
  obtain ⟨z0, y0, z1, y1, z2, y2, z3, y3, z4, y4, z5, y5, z6, y6, z7, y7⟩ := cf8 HX1.out
  have l0 := HX0.out.1
  have l1 := HX1.out.1
  go_enter Tryz.func31, Tryz.ntmps31
  go_wp2_with (first
    | (go_at_call 43; refine (has_any _ _ 3 _ [6, 11, 13] _ rfl (rd_at _ _ [6, 11, 13] _ _ rfl (by simp)) (by decide)).mono ?_; rw [HV2.out]; rintro e wn ⟨rfl, hbn⟩; have hk := up (below_box _ _) hbn; have hx0 := HX0.out.keep hk; have hx1 := HX1.out.keep hk; have hbb := up HB1.out hk; clear HX0 HX1 HB1; have HX0 := Lib.hid hx0; have HX1 := Lib.hid hx1; have HB1 := Lib.hid hbb; clear hx0 hx1 hbb hk hbn; clear a0 z0 y0 a1 z1 y1 a2 z2 y2 a3 z3 y3 a4 z4 y4 a5 z5 y5 a6 z6 y6 a7 z7 y7 g0 l0 l1; have a0 := HX0.out.cell 0 _ rfl; have a1 := HX0.out.cell 1 _ rfl; have a2 := HX0.out.cell 2 _ rfl; have a3 := HX0.out.cell 3 _ rfl; have a4 := HX0.out.cell 4 _ rfl; have a5 := HX0.out.cell 5 _ rfl; have a6 := HX0.out.cell 6 _ rfl; have a7 := HX0.out.cell 7 _ rfl; have g0 := HX0.out.free 0 (by show 0 < 8; decide); obtain ⟨z0, y0, z1, y1, z2, y2, z3, y3, z4, y4, z5, y5, z6, y6, z7, y7⟩ := cf8 HX1.out; have l0 := HX0.out.1; have l1 := HX1.out.1)
    | (go_at_call 43; refine (has_any _ _ 3 _ [7, 12, 14] _ rfl (rd_at _ _ [7, 12, 14] _ _ rfl (by simp)) (by decide)).mono ?_; rw [HV1.out]; rintro e wn ⟨rfl, hbn⟩; have hk := up (below_box _ _) hbn; have hx0 := HX0.out.keep hk; have hx1 := HX1.out.keep hk; have hbb := up HB1.out hk; clear HX0 HX1 HB1; have HX0 := Lib.hid hx0; have HX1 := Lib.hid hx1; have HB1 := Lib.hid hbb; clear hx0 hx1 hbb hk hbn; clear a0 z0 y0 a1 z1 y1 a2 z2 y2 a3 z3 y3 a4 z4 y4 a5 z5 y5 a6 z6 y6 a7 z7 y7 g0 l0 l1; have a0 := HX0.out.cell 0 _ rfl; have a1 := HX0.out.cell 1 _ rfl; have a2 := HX0.out.cell 2 _ rfl; have a3 := HX0.out.cell 3 _ rfl; have a4 := HX0.out.cell 4 _ rfl; have a5 := HX0.out.cell 5 _ rfl; have a6 := HX0.out.cell 6 _ rfl; have a7 := HX0.out.cell 7 _ rfl; have g0 := HX0.out.free 0 (by show 0 < 8; decide); obtain ⟨z0, y0, z1, y1, z2, y2, z3, y3, z4, y4, z5, y5, z6, y6, z7, y7⟩ := cf8 HX1.out; have l0 := HX0.out.1; have l1 := HX1.out.1)
    | (go_at_call 51; refine (HPR.out au aq nu cu nq cq w0 _ HRS.out (upP HW0.out HB1.out)).mono ?_; rintro e w3 ⟨u, q, v, rfl, hv3, hb3⟩; have hf := hv3 w3 ⟨upP HW0.out (up HB1.out hb3), fun k _ _ => rfl⟩; generalize prtS utf b = r at *; have HV3 := Lib.hid hv3; clear hv3; obtain ⟨⟨rst, rutf, rpr, rfi, rps, rit, rtx, rbad⟩, rl⟩ := r; obtain ⟨A1, c1, hu1⟩ := hf.1.1.form; obtain ⟨A2, c2, hq1⟩ := hf.1.2.form; obtain ⟨A3, c3, hv1⟩ := hf.2.form; dsimp only at hu1 hq1 hv1; subst hu1; subst hq1; subst hv1; clear hf; unfold cS; dsimp only; have hx1 := HX1.out.keep hb3; have hbb := up HB1.out hb3; have hl9 := HX1.out.1; clear HX1; have HX1 := Lib.hid hx1; have HB3 := Lib.hid hbb; clear hx1 hbb; clear a0 z0 y0 a1 z1 y1 a2 z2 y2 a3 z3 y3 a4 z4 y4 a5 z5 y5 a6 z6 y6 a7 z7 y7 g0 l0 l1; obtain ⟨z0, y0, z1, y1, z2, y2, z3, y3, z4, y4, z5, y5, z6, y6, z7, y7⟩ := cf8 HX1.out; have l1 := HX1.out.1))
  refine bodyPost_ret (ret_cell rfl _ _ ⟨w.heap.size + 1, 0, none⟩ _ rfl (load_par8 _ _ _ _ _ _ _ _ _ _ (box_set8 _ _ _ _ _ _ _ _ HX1.out))) rfl ?_
  exact ⟨_, _, _, rfl, fun W hW => HV3.out W (hW.down (by omega) (grown_set8 _ _ _ _ _ _ _ _ _ _) (by omega)), below_set8 _ _ _ _ _ _ _ _ _ HB3.out (by omega)⟩
set_option maxRecDepth 100000 in
set_option maxHeartbeats 8000000 in
theorem one_p_0 (p : PS) (b : UInt8) (au aq : Option Addr) (nu cu nq cq : Nat) (w0 w : World) (hr : RS w0 (.slice au nu cu) (.slice aq nq cq) p) (hw : Pre w0 w) (hs : p.st = 0) (hu : p.utf = []) (k1 : 128 ≤ b.toNat) :
    Calls Tryz.prog 31 #[.agg (cS p (.slice au nu cu) (.slice aq nq cq)), .int .u8 (b.toNat : Int)] w (Ret2 (prtS p.utf b) w0 w) := by
  have HRS := Lib.hid hr
  have hnu : nu = p.utf.length := by
    obtain ⟨A9, c9, e9, -⟩ := hr.1
    cases e9
    rfl
  clear hr
  have HW0 := Lib.hid hw; clear hw
  obtain ⟨st, utf, pr, fi, pp, it, tx, bad⟩ := p
  dsimp only at *
  subst hs
  obtain rfl : nu = 0 := by rw [hnu, hu]; rfl
  clear hnu
  have d128 : decide ((128 : Int) ≤ (b.toNat : Int)) = true := decide_eq_true (by omega)
  have HPR := Lib.hid (fun au aq nu cu nq cq w0 w h1 h2 => prints_any ⟨0, utf, pr, fi, pp, it, tx, bad⟩ b au aq nu cu nq cq w0 w h1 h2 (by simp [hu]))
  have HV1 := Lib.hid (show hasB 0 [7, 12, 14] = false by decide)
  have HV2 := Lib.hid (show hasB 0 [6, 11, 13] = false by decide)
  clear hu k1
  unfold cS
  dsimp only at *
  have HX0 := Lib.hid ((Box.new w #[.int .i64 0, .slice au 0 cu, .int .u8 (pr.toNat : Int), .int .u8 (fi.toNat : Int), .slice aq nq cq, .string it, .string tx, .bool bad] 25).alloc (.cells #[.int .i64 0, .slice none 0 0, .int .u8 0, .int .u8 0, .slice none 0 0, .string ⟨#[]⟩, .string ⟨#[]⟩, .bool false] 25))
  have hx1 := Box.new (w.alloc (.cells #[.int .i64 0, .slice au 0 cu, .int .u8 (pr.toNat : Int), .int .u8 (fi.toNat : Int), .slice aq nq cq, .string it, .string tx, .bool bad] 25)) #[.int .i64 0, .slice none 0 0, .int .u8 0, .int .u8 0, .slice none 0 0, .string ⟨#[]⟩, .string ⟨#[]⟩, .bool false] 25
  rw [World.size_alloc] at hx1
  have HX1 := Lib.hid hx1
  have HB1 := Lib.hid (show Below w.heap.size w ((w.alloc (.cells #[.int .i64 0, .slice au 0 cu, .int .u8 (pr.toNat : Int), .int .u8 (fi.toNat : Int), .slice aq nq cq, .string it, .string tx, .bool bad] 25)).alloc (.cells #[.int .i64 0, .slice none 0 0, .int .u8 0, .int .u8 0, .slice none 0 0, .string ⟨#[]⟩, .string ⟨#[]⟩, .bool false] 25)) from up (below_box _ _) (below_box _ _))
  clear hx1
  have a0 := HX0.out.cell 0 _ rfl
  have a1 := HX0.out.cell 1 _ rfl
  have a2 := HX0.out.cell 2 _ rfl
  have a3 := HX0.out.cell 3 _ rfl
  have a4 := HX0.out.cell 4 _ rfl
  have a5 := HX0.out.cell 5 _ rfl
  have a6 := HX0.out.cell 6 _ rfl
  have a7 := HX0.out.cell 7 _ rfl
  have g0 := HX0.out.free 0 (by show 0 < 8; decide)
  obtain ⟨z0, y0, z1, y1, z2, y2, z3, y3, z4, y4, z5, y5, z6, y6, z7, y7⟩ := cf8 HX1.out
  have l0 := HX0.out.1
  have l1 := HX1.out.1
  go_enter Tryz.func31, Tryz.ntmps31
  go_wp2_with (first
    | (go_at_call 43; refine (has_any _ _ 3 _ [6, 11, 13] _ rfl (rd_at _ _ [6, 11, 13] _ _ rfl (by simp)) (by decide)).mono ?_; rw [HV2.out]; rintro e wn ⟨rfl, hbn⟩; have hk := up (below_box _ _) hbn; have hx0 := HX0.out.keep hk; have hx1 := HX1.out.keep hk; have hbb := up HB1.out hk; clear HX0 HX1 HB1; have HX0 := Lib.hid hx0; have HX1 := Lib.hid hx1; have HB1 := Lib.hid hbb; clear hx0 hx1 hbb hk hbn; clear a0 z0 y0 a1 z1 y1 a2 z2 y2 a3 z3 y3 a4 z4 y4 a5 z5 y5 a6 z6 y6 a7 z7 y7 g0 l0 l1; have a0 := HX0.out.cell 0 _ rfl; have a1 := HX0.out.cell 1 _ rfl; have a2 := HX0.out.cell 2 _ rfl; have a3 := HX0.out.cell 3 _ rfl; have a4 := HX0.out.cell 4 _ rfl; have a5 := HX0.out.cell 5 _ rfl; have a6 := HX0.out.cell 6 _ rfl; have a7 := HX0.out.cell 7 _ rfl; have g0 := HX0.out.free 0 (by show 0 < 8; decide); obtain ⟨z0, y0, z1, y1, z2, y2, z3, y3, z4, y4, z5, y5, z6, y6, z7, y7⟩ := cf8 HX1.out; have l0 := HX0.out.1; have l1 := HX1.out.1)
    | (go_at_call 43; refine (has_any _ _ 3 _ [7, 12, 14] _ rfl (rd_at _ _ [7, 12, 14] _ _ rfl (by simp)) (by decide)).mono ?_; rw [HV1.out]; rintro e wn ⟨rfl, hbn⟩; have hk := up (below_box _ _) hbn; have hx0 := HX0.out.keep hk; have hx1 := HX1.out.keep hk; have hbb := up HB1.out hk; clear HX0 HX1 HB1; have HX0 := Lib.hid hx0; have HX1 := Lib.hid hx1; have HB1 := Lib.hid hbb; clear hx0 hx1 hbb hk hbn; clear a0 z0 y0 a1 z1 y1 a2 z2 y2 a3 z3 y3 a4 z4 y4 a5 z5 y5 a6 z6 y6 a7 z7 y7 g0 l0 l1; have a0 := HX0.out.cell 0 _ rfl; have a1 := HX0.out.cell 1 _ rfl; have a2 := HX0.out.cell 2 _ rfl; have a3 := HX0.out.cell 3 _ rfl; have a4 := HX0.out.cell 4 _ rfl; have a5 := HX0.out.cell 5 _ rfl; have a6 := HX0.out.cell 6 _ rfl; have a7 := HX0.out.cell 7 _ rfl; have g0 := HX0.out.free 0 (by show 0 < 8; decide); obtain ⟨z0, y0, z1, y1, z2, y2, z3, y3, z4, y4, z5, y5, z6, y6, z7, y7⟩ := cf8 HX1.out; have l0 := HX0.out.1; have l1 := HX1.out.1)
    | (go_at_call 51; refine (HPR.out au aq 0 cu nq cq w0 _ HRS.out (upP HW0.out HB1.out)).mono ?_; rintro e w3 ⟨u, q, v, rfl, hv3, hb3⟩; have hf := hv3 w3 ⟨upP HW0.out (up HB1.out hb3), fun k _ _ => rfl⟩; generalize prtS utf b = r at *; have HV3 := Lib.hid hv3; clear hv3; obtain ⟨⟨rst, rutf, rpr, rfi, rps, rit, rtx, rbad⟩, rl⟩ := r; obtain ⟨A1, c1, hu1⟩ := hf.1.1.form; obtain ⟨A2, c2, hq1⟩ := hf.1.2.form; obtain ⟨A3, c3, hv1⟩ := hf.2.form; dsimp only at hu1 hq1 hv1; subst hu1; subst hq1; subst hv1; clear hf; unfold cS; dsimp only; have hx1 := HX1.out.keep hb3; have hbb := up HB1.out hb3; have hl9 := HX1.out.1; clear HX1; have HX1 := Lib.hid hx1; have HB3 := Lib.hid hbb; clear hx1 hbb; clear a0 z0 y0 a1 z1 y1 a2 z2 y2 a3 z3 y3 a4 z4 y4 a5 z5 y5 a6 z6 y6 a7 z7 y7 g0 l0 l1; obtain ⟨z0, y0, z1, y1, z2, y2, z3, y3, z4, y4, z5, y5, z6, y6, z7, y7⟩ := cf8 HX1.out; have l1 := HX1.out.1))
  refine bodyPost_ret (ret_cell rfl _ _ ⟨w.heap.size + 1, 0, none⟩ _ rfl (load_par8 _ _ _ _ _ _ _ _ _ _ (box_set8 _ _ _ _ _ _ _ _ HX1.out))) rfl ?_
  exact ⟨_, _, _, rfl, fun W hW => HV3.out W (hW.down (by omega) (grown_set8 _ _ _ _ _ _ _ _ _ _) (by omega)), below_set8 _ _ _ _ _ _ _ _ _ HB3.out (by omega)⟩
set_option maxRecDepth 100000 in
set_option maxHeartbeats 8000000 in
theorem one_p_n (p : PS) (b : UInt8) (au aq : Option Addr) (nu cu nq cq : Nat) (w0 w : World) (hr : RS w0 (.slice au nu cu) (.slice aq nq cq) p) (hw : Pre w0 w) (hs : p.st ≠ 0) (hv1 : hasB p.st [7, 12, 14] = false) (hv2 : hasB p.st [6, 11, 13] = false) (k1 : 128 ≤ b.toNat) :
    Calls Tryz.prog 31 #[.agg (cS p (.slice au nu cu) (.slice aq nq cq)), .int .u8 (b.toNat : Int)] w (Ret2 (prtS [] b) w0 w) := by
  have HRS := Lib.hid hr
  have hnu : nu = p.utf.length := by
    obtain ⟨A9, c9, e9, -⟩ := hr.1
    cases e9
    rfl
  clear hr
  have HW0 := Lib.hid hw; clear hw
  obtain ⟨st, utf, pr, fi, pp, it, tx, bad⟩ := p
  dsimp only at *
  have c0 : (st == 0) = false := by simp; omega
  clear hnu hs
  have b24 : ((b.toNat : Int) == 24) = false := by simp; omega
  have b26 : ((b.toNat : Int) == 26) = false := by simp; omega
  have b27 : ((b.toNat : Int) == 27) = false := by simp; omega
  have d128 : decide ((128 : Int) ≤ (b.toNat : Int)) = true := decide_eq_true (by omega)
  have HPR := Lib.hid (fun w (h : Pre w0 w) => show Calls Tryz.prog 51 #[.agg #[.int .i64 0, .slice none 0 0, .int .u8 0, .int .u8 0, .slice none 0 0, .string ⟨#[]⟩, .string ⟨#[]⟩, .bool false], .int .u8 (b.toNat : Int)] w (Ret2 (prtS [] b) w0 w) from prints_any (begS 0) b none none 0 0 0 0 w0 w (RS.nil _ _ rfl rfl) h (by decide))
  have HV1 := Lib.hid hv1
  have HV2 := Lib.hid hv2
  clear hv1 hv2
  clear k1
  unfold cS
  dsimp only at *
  have HX0 := Lib.hid ((Box.new w #[.int .i64 st, .slice au nu cu, .int .u8 (pr.toNat : Int), .int .u8 (fi.toNat : Int), .slice aq nq cq, .string it, .string tx, .bool bad] 25).alloc (.cells #[.int .i64 0, .slice none 0 0, .int .u8 0, .int .u8 0, .slice none 0 0, .string ⟨#[]⟩, .string ⟨#[]⟩, .bool false] 25))
  have hx1 := Box.new (w.alloc (.cells #[.int .i64 st, .slice au nu cu, .int .u8 (pr.toNat : Int), .int .u8 (fi.toNat : Int), .slice aq nq cq, .string it, .string tx, .bool bad] 25)) #[.int .i64 0, .slice none 0 0, .int .u8 0, .int .u8 0, .slice none 0 0, .string ⟨#[]⟩, .string ⟨#[]⟩, .bool false] 25
  rw [World.size_alloc] at hx1
  have HX1 := Lib.hid hx1
  have HB1 := Lib.hid (show Below w.heap.size w ((w.alloc (.cells #[.int .i64 st, .slice au nu cu, .int .u8 (pr.toNat : Int), .int .u8 (fi.toNat : Int), .slice aq nq cq, .string it, .string tx, .bool bad] 25)).alloc (.cells #[.int .i64 0, .slice none 0 0, .int .u8 0, .int .u8 0, .slice none 0 0, .string ⟨#[]⟩, .string ⟨#[]⟩, .bool false] 25)) from up (below_box _ _) (below_box _ _))
  clear hx1
  have a0 := HX0.out.cell 0 _ rfl
  have a1 := HX0.out.cell 1 _ rfl
  have a2 := HX0.out.cell 2 _ rfl
  have a3 := HX0.out.cell 3 _ rfl
  have a4 := HX0.out.cell 4 _ rfl
  have a5 := HX0.out.cell 5 _ rfl
  have a6 := HX0.out.cell 6 _ rfl
  have a7 := HX0.out.cell 7 _ rfl
  have g0 := HX0.out.free 0 (by show 0 < 8; decide)
  obtain ⟨z0, y0, z1, y1, z2, y2, z3, y3, z4, y4, z5, y5, z6, y6, z7, y7⟩ := cf8 HX1.out
  have l0 := HX0.out.1
  have l1 := HX1.out.1
  go_enter Tryz.func31, Tryz.ntmps31
  go_wp2_with (first
    | (go_at_call 43; refine (has_any _ _ 3 _ [6, 11, 13] _ rfl (rd_at _ _ [6, 11, 13] _ _ rfl (by simp)) (by decide)).mono ?_; rw [HV2.out]; rintro e wn ⟨rfl, hbn⟩; have hk := up (below_box _ _) hbn; have hx0 := HX0.out.keep hk; have hx1 := HX1.out.keep hk; have hbb := up HB1.out hk; clear HX0 HX1 HB1; have HX0 := Lib.hid hx0; have HX1 := Lib.hid hx1; have HB1 := Lib.hid hbb; clear hx0 hx1 hbb hk hbn; clear a0 z0 y0 a1 z1 y1 a2 z2 y2 a3 z3 y3 a4 z4 y4 a5 z5 y5 a6 z6 y6 a7 z7 y7 g0 l0 l1; have a0 := HX0.out.cell 0 _ rfl; have a1 := HX0.out.cell 1 _ rfl; have a2 := HX0.out.cell 2 _ rfl; have a3 := HX0.out.cell 3 _ rfl; have a4 := HX0.out.cell 4 _ rfl; have a5 := HX0.out.cell 5 _ rfl; have a6 := HX0.out.cell 6 _ rfl; have a7 := HX0.out.cell 7 _ rfl; have g0 := HX0.out.free 0 (by show 0 < 8; decide); obtain ⟨z0, y0, z1, y1, z2, y2, z3, y3, z4, y4, z5, y5, z6, y6, z7, y7⟩ := cf8 HX1.out; have l0 := HX0.out.1; have l1 := HX1.out.1)
    | (go_at_call 43; refine (has_any _ _ 3 _ [7, 12, 14] _ rfl (rd_at _ _ [7, 12, 14] _ _ rfl (by simp)) (by decide)).mono ?_; rw [HV1.out]; rintro e wn ⟨rfl, hbn⟩; have hk := up (below_box _ _) hbn; have hx0 := HX0.out.keep hk; have hx1 := HX1.out.keep hk; have hbb := up HB1.out hk; clear HX0 HX1 HB1; have HX0 := Lib.hid hx0; have HX1 := Lib.hid hx1; have HB1 := Lib.hid hbb; clear hx0 hx1 hbb hk hbn; clear a0 z0 y0 a1 z1 y1 a2 z2 y2 a3 z3 y3 a4 z4 y4 a5 z5 y5 a6 z6 y6 a7 z7 y7 g0 l0 l1; have a0 := HX0.out.cell 0 _ rfl; have a1 := HX0.out.cell 1 _ rfl; have a2 := HX0.out.cell 2 _ rfl; have a3 := HX0.out.cell 3 _ rfl; have a4 := HX0.out.cell 4 _ rfl; have a5 := HX0.out.cell 5 _ rfl; have a6 := HX0.out.cell 6 _ rfl; have a7 := HX0.out.cell 7 _ rfl; have g0 := HX0.out.free 0 (by show 0 < 8; decide); obtain ⟨z0, y0, z1, y1, z2, y2, z3, y3, z4, y4, z5, y5, z6, y6, z7, y7⟩ := cf8 HX1.out; have l0 := HX0.out.1; have l1 := HX1.out.1)
    | (go_at_call 52; refine (begin_any 0 _).mono ?_; rintro e w5 ⟨rfl, hb5⟩; have hx1 := HX1.out.keep hb5; have hbb := up HB1.out hb5; clear HX1 HB1; have HX1 := Lib.hid hx1; have HB1 := Lib.hid hbb; clear hx1 hbb hb5; clear z0 y0 z1 y1 z2 y2 z3 y3 z4 y4 z5 y5 z6 y6 z7 y7 l1; obtain ⟨z0, y0, z1, y1, z2, y2, z3, y3, z4, y4, z5, y5, z6, y6, z7, y7⟩ := cf8 HX1.out; have l1 := HX1.out.1)
    | (go_at_call 51; refine (HPR.out _ (upP HW0.out HB1.out)).mono ?_; rintro e w3 ⟨u, q, v, rfl, hv3, hb3⟩; have hf := hv3 w3 ⟨upP HW0.out (up HB1.out hb3), fun k _ _ => rfl⟩; generalize prtS [] b = r at *; have HV3 := Lib.hid hv3; clear hv3; obtain ⟨⟨rst, rutf, rpr, rfi, rps, rit, rtx, rbad⟩, rl⟩ := r; obtain ⟨A1, c1, hu1⟩ := hf.1.1.form; obtain ⟨A2, c2, hq1⟩ := hf.1.2.form; obtain ⟨A3, c3, hv1⟩ := hf.2.form; dsimp only at hu1 hq1 hv1; subst hu1; subst hq1; subst hv1; clear hf; unfold cS; dsimp only; have hx1 := HX1.out.keep hb3; have hbb := up HB1.out hb3; have hl9 := HX1.out.1; clear HX1; have HX1 := Lib.hid hx1; have HB3 := Lib.hid hbb; clear hx1 hbb; clear a0 z0 y0 a1 z1 y1 a2 z2 y2 a3 z3 y3 a4 z4 y4 a5 z5 y5 a6 z6 y6 a7 z7 y7 g0 l0 l1; obtain ⟨z0, y0, z1, y1, z2, y2, z3, y3, z4, y4, z5, y5, z6, y6, z7, y7⟩ := cf8 HX1.out; have l1 := HX1.out.1))
  refine bodyPost_ret (ret_cell rfl _ _ ⟨w.heap.size + 1, 0, none⟩ _ rfl (load_par8 _ _ _ _ _ _ _ _ _ _ (box_set8 _ _ _ _ _ _ _ _ HX1.out))) rfl ?_
  exact ⟨_, _, _, rfl, fun W hW => HV3.out W (hW.down (by omega) (grown_set8 _ _ _ _ _ _ _ _ _ _) (by omega)), below_set8 _ _ _ _ _ _ _ _ _ HB3.out (by omega)⟩
end Go.Proofs.YtmboekpomjgnnaaGreatDoor.Sta

namespace Go.Proofs.YtmboekpomjgnnaaGreatDoor.Sta
open Go.RowKit Utf Par

/-- one at the state Escape -/
theorem one_esc (b : UInt8) (hb : b.toNat ≠ 24 ∧ b.toNat ≠ 26 ∧ b.toNat ≠ 27) (w0 w : World) (hw : Pre w0 w) :
    Calls Tryz.prog 31 #[.agg #[.int .i64 1, .slice none 0 0, .int .u8 0, .int .u8 0, .slice none 0 0, .string ⟨#[]⟩, .string ⟨#[]⟩, .bool false], .int .u8 (b.toNat : Int)] w (Ret2 (escB b) w0 w) := by
  have hr : RS w0 (.slice none 0 0) (.slice none 0 0) (begS 1) := RS.nil _ _ rfl rfl
  have h1 : (begS 1).st ≠ 0 := by decide
  have h2 : hasB (begS 1).st [7, 12, 14] = false := by decide
  have h3 : hasB (begS 1).st [6, 11, 13] = false := by decide
  unfold escB
  by_cases k1 : 128 ≤ b.toNat
  · rw [if_pos k1]; exact one_p_n (begS 1) b none none 0 0 0 0 w0 w hr hw h1 h2 h3 k1
  · rw [if_neg k1]
    by_cases k2 : b.toNat < 32
    · rw [if_pos k2]; exact one_c_n (begS 1) b none none 0 0 0 0 w0 w hr hw h1 h2 h3 (by decide) hb k2
    · rw [if_neg k2]
      by_cases k3 : b.toNat = 127
      · rw [if_pos k3]; exact one_127_n (begS 1) b none none 0 0 0 0 w0 w hr hw h1 h2 h3 k3
      · rw [if_neg k3, show escS b = goeS (begS 1) b from rfl]
        exact one_g_n (begS 1) b none none 0 0 0 0 w0 w hr hw h1 h2 h3 (by omega) (by omega) (.inr (.inl rfl)) (by decide) ⟨by decide, fun x hx => by cases hx⟩
set_option maxRecDepth 100000 in
set_option maxHeartbeats 8000000 in
theorem ends_7 (p : PS) (b : UInt8) (au aq : Option Addr) (nu cu nq cq : Nat) (w0 w : World) (hr : RS w0 (.slice au nu cu) (.slice aq nq cq) p) (hw : Pre w0 w) (hs : p.st = 7) (hb : b.toNat = 92) :
    Calls Tryz.prog 53 #[.agg (cS p (.slice au nu cu) (.slice aq nq cq)), .int .u8 (b.toNat : Int)] w (Ret2 (tolS p (osE p)) w0 w) := by
  have HRS := Lib.hid hr; clear hr
  have HW0 := Lib.hid hw; clear hw
  obtain ⟨st, utf, pr, fi, pp, it, tx, bad⟩ := p
  try dsimp only at *
  subst hs
  have hbv : (b.toNat : Int) = 92 := by omega
  rw [hbv]
  clear hbv hb
  unfold cS
  try dsimp only at *
  have hx1 := Box.new (w.alloc (.cells #[.int .i64 7, .slice au nu cu, .int .u8 (pr.toNat : Int), .int .u8 (fi.toNat : Int), .slice aq nq cq, .string it, .string tx, .bool bad] 25)) #[.int .i64 0, .slice none 0 0, .int .u8 0, .int .u8 0, .slice none 0 0, .string ⟨#[]⟩, .string ⟨#[]⟩, .bool false] 25
  have hb1 : Below w.heap.size w ((w.alloc (.cells #[.int .i64 7, .slice au nu cu, .int .u8 (pr.toNat : Int), .int .u8 (fi.toNat : Int), .slice aq nq cq, .string it, .string tx, .bool bad] 25)).alloc (.cells #[.int .i64 0, .slice none 0 0, .int .u8 0, .int .u8 0, .slice none 0 0, .string ⟨#[]⟩, .string ⟨#[]⟩, .bool false] 25)) := up (below_box _ _) (below_box _ _)
  rw [World.size_alloc] at hx1
  have HX1 := Lib.hid hx1
  have HB1 := Lib.hid hb1
  clear hx1 hb1
  go_enter Tryz.func53, Tryz.ntmps53
  go_wp2_with (first
    | (go_at_call 71; refine (told_is ⟨7, utf, pr, fi, pp, it, tx, bad⟩ (osE ⟨7, utf, pr, fi, pp, it, tx, bad⟩) au aq none nu cu nq cq 0 0 w0 _ (RL.nil _)).mono ?_; rintro e w3 ⟨vv, rfl, hv3, hb3⟩; have hx3 := HX1.out.keep hb3; obtain ⟨z0, y0, z1, y1, z2, y2, z3, y3, z4, y4, z5, y5, z6, y6, z7, y7⟩ := cf8 hx3; have l3 := hx3.1; have HX3 := Lib.hid hx3; clear hx3))
  refine bodyPost_ret (ret_cell rfl _ _ ⟨w.heap.size + 1, 0, none⟩ _ rfl (load_par8 _ _ _ _ _ _ _ _ _ _ (box_set8 _ _ _ _ _ _ _ _ HX3.out))) rfl ?_
  exact ⟨_, _, _, by rw [tolS_fst]; rfl, fun W hW => ⟨by rw [tolS_fst]; exact RS.nil _ _ rfl rfl, hv3 W (hW.down (by simp; omega) (grown_set8 _ _ _ _ _ _ _ _ _ _) (by simp))⟩, below_set8 _ _ _ _ _ _ _ _ _ (up HB1.out hb3) (by omega)⟩
set_option maxRecDepth 100000 in
set_option maxHeartbeats 8000000 in
theorem ends_12 (p : PS) (b : UInt8) (au aq : Option Addr) (nu cu nq cq : Nat) (w0 w : World) (hr : RS w0 (.slice au nu cu) (.slice aq nq cq) p) (hw : Pre w0 w) (hs : p.st = 12) (hb : b.toNat = 92) :
    Calls Tryz.prog 53 #[.agg (cS p (.slice au nu cu) (.slice aq nq cq)), .int .u8 (b.toNat : Int)] w (Ret2 (tolS p (dcE p)) w0 w) := by
  have HRS := Lib.hid hr; clear hr
  have HW0 := Lib.hid hw; clear hw
  obtain ⟨st, utf, pr, fi, pp, it, tx, bad⟩ := p
  try dsimp only at *
  subst hs
  have hbv : (b.toNat : Int) = 92 := by omega
  rw [hbv]
  clear hbv hb
  unfold cS
  try dsimp only at *
  have hx1 := Box.new (w.alloc (.cells #[.int .i64 12, .slice au nu cu, .int .u8 (pr.toNat : Int), .int .u8 (fi.toNat : Int), .slice aq nq cq, .string it, .string tx, .bool bad] 25)) #[.int .i64 0, .slice none 0 0, .int .u8 0, .int .u8 0, .slice none 0 0, .string ⟨#[]⟩, .string ⟨#[]⟩, .bool false] 25
  have hb1 : Below w.heap.size w ((w.alloc (.cells #[.int .i64 12, .slice au nu cu, .int .u8 (pr.toNat : Int), .int .u8 (fi.toNat : Int), .slice aq nq cq, .string it, .string tx, .bool bad] 25)).alloc (.cells #[.int .i64 0, .slice none 0 0, .int .u8 0, .int .u8 0, .slice none 0 0, .string ⟨#[]⟩, .string ⟨#[]⟩, .bool false] 25)) := up (below_box _ _) (below_box _ _)
  rw [World.size_alloc] at hx1
  have HX1 := Lib.hid hx1
  have HB1 := Lib.hid hb1
  clear hx1 hb1
  go_enter Tryz.func53, Tryz.ntmps53
  go_wp2_with (first
    | (go_at_call 71; refine (told_is ⟨12, utf, pr, fi, pp, it, tx, bad⟩ (dcE ⟨12, utf, pr, fi, pp, it, tx, bad⟩) au aq aq nu cu nq cq nq cq w0 _ (HRS.out.2)).mono ?_; rintro e w3 ⟨vv, rfl, hv3, hb3⟩; have hx3 := HX1.out.keep hb3; obtain ⟨z0, y0, z1, y1, z2, y2, z3, y3, z4, y4, z5, y5, z6, y6, z7, y7⟩ := cf8 hx3; have l3 := hx3.1; have HX3 := Lib.hid hx3; clear hx3))
  refine bodyPost_ret (ret_cell rfl _ _ ⟨w.heap.size + 1, 0, none⟩ _ rfl (load_par8 _ _ _ _ _ _ _ _ _ _ (box_set8 _ _ _ _ _ _ _ _ HX3.out))) rfl ?_
  exact ⟨_, _, _, by rw [tolS_fst]; rfl, fun W hW => ⟨by rw [tolS_fst]; exact RS.nil _ _ rfl rfl, hv3 W (hW.down (by simp; omega) (grown_set8 _ _ _ _ _ _ _ _ _ _) (by simp))⟩, below_set8 _ _ _ _ _ _ _ _ _ (up HB1.out hb3) (by omega)⟩
set_option maxRecDepth 100000 in
set_option maxHeartbeats 8000000 in
theorem ends_n (p : PS) (b : UInt8) (au aq : Option Addr) (nu cu nq cq : Nat) (w0 w : World) (hr : RS w0 (.slice au nu cu) (.slice aq nq cq) p) (hw : Pre w0 w) (h7 : p.st ≠ 7) (h12 : p.st ≠ 12) (hb : b.toNat = 92) :
    Calls Tryz.prog 53 #[.agg (cS p (.slice au nu cu) (.slice aq nq cq)), .int .u8 (b.toNat : Int)] w (Ret2 (begS 0, []) w0 w) := by
  have HRS := Lib.hid hr; clear hr
  have HW0 := Lib.hid hw; clear hw
  obtain ⟨st, utf, pr, fi, pp, it, tx, bad⟩ := p
  try dsimp only at *
  have c7 : (st == 7) = false := by simp; omega
  have c12 : (st == 12) = false := by simp; omega
  clear h7 h12
  have hbv : (b.toNat : Int) = 92 := by omega
  rw [hbv]
  clear hbv hb
  unfold cS
  try dsimp only at *
  have hx1 := Box.new (w.alloc (.cells #[.int .i64 st, .slice au nu cu, .int .u8 (pr.toNat : Int), .int .u8 (fi.toNat : Int), .slice aq nq cq, .string it, .string tx, .bool bad] 25)) #[.int .i64 0, .slice none 0 0, .int .u8 0, .int .u8 0, .slice none 0 0, .string ⟨#[]⟩, .string ⟨#[]⟩, .bool false] 25
  have hb1 : Below w.heap.size w ((w.alloc (.cells #[.int .i64 st, .slice au nu cu, .int .u8 (pr.toNat : Int), .int .u8 (fi.toNat : Int), .slice aq nq cq, .string it, .string tx, .bool bad] 25)).alloc (.cells #[.int .i64 0, .slice none 0 0, .int .u8 0, .int .u8 0, .slice none 0 0, .string ⟨#[]⟩, .string ⟨#[]⟩, .bool false] 25)) := up (below_box _ _) (below_box _ _)
  rw [World.size_alloc] at hx1
  have HX1 := Lib.hid hx1
  have HB1 := Lib.hid hb1
  clear hx1 hb1
  go_enter Tryz.func53, Tryz.ntmps53
  go_wp2_with (first
    | (go_at_call 52; refine (begin_any 0 _).mono ?_; rintro e w3 ⟨rfl, hb3⟩; have hx3 := HX1.out.keep hb3; obtain ⟨z0, y0, z1, y1, z2, y2, z3, y3, z4, y4, z5, y5, z6, y6, z7, y7⟩ := cf8 hx3; have l3 := hx3.1; have HX3 := Lib.hid hx3; clear hx3))
  refine bodyPost_ret (ret_cell rfl _ _ ⟨w.heap.size + 1, 0, none⟩ _ rfl (load_par8 _ _ _ _ _ _ _ _ _ _ (box_set8 _ _ _ _ _ _ _ _ HX3.out))) rfl ?_
  exact ⟨_, _, _, rfl, fun W hW => ⟨RS.nil _ _ rfl rfl, RV.nil _⟩, below_set8 _ _ _ _ _ _ _ _ _ (up HB1.out hb3) (by omega)⟩
set_option maxRecDepth 100000 in
set_option maxHeartbeats 8000000 in
theorem ends_o (p : PS) (b : UInt8) (au aq : Option Addr) (nu cu nq cq : Nat) (w0 w : World) (hr : RS w0 (.slice au nu cu) (.slice aq nq cq) p) (hw : Pre w0 w) (h92 : b.toNat ≠ 92) (hb : b.toNat ≠ 24 ∧ b.toNat ≠ 26 ∧ b.toNat ≠ 27) :
    Calls Tryz.prog 53 #[.agg (cS p (.slice au nu cu) (.slice aq nq cq)), .int .u8 (b.toNat : Int)] w (Ret2 (escB b) w0 w) := by
  have HRS := Lib.hid hr; clear hr
  have HW0 := Lib.hid hw; clear hw
  obtain ⟨st, utf, pr, fi, pp, it, tx, bad⟩ := p
  try dsimp only at *
  have c92 : ((b.toNat : Int) == 92) = false := by simp; omega
  have HG := Lib.hid (fun W h => one_esc b hb w0 W h)
  clear h92 hb
  unfold cS
  try dsimp only at *
  have hx1 := Box.new (w.alloc (.cells #[.int .i64 st, .slice au nu cu, .int .u8 (pr.toNat : Int), .int .u8 (fi.toNat : Int), .slice aq nq cq, .string it, .string tx, .bool bad] 25)) #[.int .i64 0, .slice none 0 0, .int .u8 0, .int .u8 0, .slice none 0 0, .string ⟨#[]⟩, .string ⟨#[]⟩, .bool false] 25
  have hb1 : Below w.heap.size w ((w.alloc (.cells #[.int .i64 st, .slice au nu cu, .int .u8 (pr.toNat : Int), .int .u8 (fi.toNat : Int), .slice aq nq cq, .string it, .string tx, .bool bad] 25)).alloc (.cells #[.int .i64 0, .slice none 0 0, .int .u8 0, .int .u8 0, .slice none 0 0, .string ⟨#[]⟩, .string ⟨#[]⟩, .bool false] 25)) := up (below_box _ _) (below_box _ _)
  rw [World.size_alloc] at hx1
  have HX1 := Lib.hid hx1
  have HB1 := Lib.hid hb1
  clear hx1 hb1
  go_enter Tryz.func53, Tryz.ntmps53
  go_wp2_with (first
    | (go_at_call 52; refine (begin_any 1 _).mono ?_; rintro e w5 ⟨rfl, hb5⟩)
    | (go_at_call 31; refine (HG.out _ (upP HW0.out (up HB1.out hb5))).mono ?_; rintro e w3 ⟨u, q, v, rfl, hv3, hb3⟩; have hf := hv3 w3 ⟨upP HW0.out (up (up HB1.out hb5) hb3), fun k _ _ => rfl⟩; generalize escB b = r at *; have HV3 := Lib.hid hv3; clear hv3; obtain ⟨⟨rst, rutf, rpr, rfi, rps, rit, rtx, rbad⟩, rl⟩ := r; obtain ⟨A1, c1, hu1⟩ := hf.1.1.form; obtain ⟨A2, c2, hq1⟩ := hf.1.2.form; obtain ⟨A3, c3, hv1⟩ := hf.2.form; dsimp only at hu1 hq1 hv1; subst hu1; subst hq1; subst hv1; clear hf; unfold cS; dsimp only; have hx3 := (HX1.out.keep hb5).keep hb3; have HB3 := Lib.hid (up (up HB1.out hb5) hb3); obtain ⟨z0, y0, z1, y1, z2, y2, z3, y3, z4, y4, z5, y5, z6, y6, z7, y7⟩ := cf8 hx3; have l3 := hx3.1; have HX3 := Lib.hid hx3; have l5 := (HX1.out.keep hb5).1; clear hx3))
  refine bodyPost_ret (ret_cell rfl _ _ ⟨w.heap.size + 1, 0, none⟩ _ rfl (load_par8 _ _ _ _ _ _ _ _ _ _ (box_set8 _ _ _ _ _ _ _ _ HX3.out))) rfl ?_
  exact ⟨_, _, _, rfl, fun W hW => HV3.out W (hW.down (by omega) (grown_set8 _ _ _ _ _ _ _ _ _ _) (by omega)), below_set8 _ _ _ _ _ _ _ _ _ HB3.out (by omega)⟩
theorem ends_any (p : PS) (b : UInt8) (au aq : Option Addr) (nu cu nq cq : Nat) (w0 w : World) (hr : RS w0 (.slice au nu cu) (.slice aq nq cq) p) (hw : Pre w0 w) (hb : b.toNat ≠ 24 ∧ b.toNat ≠ 26 ∧ b.toNat ≠ 27) :
    Calls Tryz.prog 53 #[.agg (cS p (.slice au nu cu) (.slice aq nq cq)), .int .u8 (b.toNat : Int)] w (Ret2 (endS p b) w0 w) := by
  unfold endS
  by_cases k : b.toNat = 92
  · rw [if_neg (by omega)]
    by_cases h7 : p.st = 7
    · rw [if_pos h7]; exact ends_7 p b au aq nu cu nq cq w0 w hr hw h7 k
    · rw [if_neg h7]
      by_cases h12 : p.st = 12
      · rw [if_pos h12]; exact ends_12 p b au aq nu cu nq cq w0 w hr hw h12 k
      · rw [if_neg h12]; exact ends_n p b au aq nu cu nq cq w0 w hr hw h7 h12 k
  · rw [if_pos k]; exact ends_o p b au aq nu cu nq cq w0 w hr hw k hb
end Go.Proofs.YtmboekpomjgnnaaGreatDoor.Sta

namespace Go.Proofs.YtmboekpomjgnnaaGreatDoor.Sta
open Go.RowKit Utf Par

set_option maxRecDepth 100000 in
set_option maxHeartbeats 8000000 in
theorem one_e (p : PS) (b : UInt8) (au aq : Option Addr) (nu cu nq cq : Nat) (w0 w : World) (hr : RS w0 (.slice au nu cu) (.slice aq nq cq) p) (hw : Pre w0 w) (hs : p.st ≠ 0) (hv1 : hasB p.st [7, 12, 14] = true) (hv2 : hasB p.st [6, 11, 13] = false) (hb : b.toNat ≠ 24 ∧ b.toNat ≠ 26 ∧ b.toNat ≠ 27) :
    Calls Tryz.prog 31 #[.agg (cS p (.slice au nu cu) (.slice aq nq cq)), .int .u8 (b.toNat : Int)] w (Ret2 (endS p b) w0 w) := by
  have HRS := Lib.hid hr
  have hnu : nu = p.utf.length := by
    obtain ⟨A9, c9, e9, -⟩ := hr.1
    cases e9
    rfl
  clear hr
  have HW0 := Lib.hid hw; clear hw
  obtain ⟨st, utf, pr, fi, pp, it, tx, bad⟩ := p
  dsimp only at *
  have c0 : (st == 0) = false := by simp; omega
  have HEN := Lib.hid (fun au aq nu cu nq cq w0 w h1 h2 => ends_any ⟨st, utf, pr, fi, pp, it, tx, bad⟩ b au aq nu cu nq cq w0 w h1 h2 hb)
  clear hnu hs
  have b24 : ((b.toNat : Int) == 24) = false := by simp; omega
  have b26 : ((b.toNat : Int) == 26) = false := by simp; omega
  have b27 : ((b.toNat : Int) == 27) = false := by simp; omega
  have HV1 := Lib.hid hv1
  have HV2 := Lib.hid hv2
  clear hv1 hv2
  clear hb
  unfold cS
  dsimp only at *
  have HX0 := Lib.hid ((Box.new w #[.int .i64 st, .slice au nu cu, .int .u8 (pr.toNat : Int), .int .u8 (fi.toNat : Int), .slice aq nq cq, .string it, .string tx, .bool bad] 25).alloc (.cells #[.int .i64 0, .slice none 0 0, .int .u8 0, .int .u8 0, .slice none 0 0, .string ⟨#[]⟩, .string ⟨#[]⟩, .bool false] 25))
  have hx1 := Box.new (w.alloc (.cells #[.int .i64 st, .slice au nu cu, .int .u8 (pr.toNat : Int), .int .u8 (fi.toNat : Int), .slice aq nq cq, .string it, .string tx, .bool bad] 25)) #[.int .i64 0, .slice none 0 0, .int .u8 0, .int .u8 0, .slice none 0 0, .string ⟨#[]⟩, .string ⟨#[]⟩, .bool false] 25
  rw [World.size_alloc] at hx1
  have HX1 := Lib.hid hx1
  have HB1 := Lib.hid (show Below w.heap.size w ((w.alloc (.cells #[.int .i64 st, .slice au nu cu, .int .u8 (pr.toNat : Int), .int .u8 (fi.toNat : Int), .slice aq nq cq, .string it, .string tx, .bool bad] 25)).alloc (.cells #[.int .i64 0, .slice none 0 0, .int .u8 0, .int .u8 0, .slice none 0 0, .string ⟨#[]⟩, .string ⟨#[]⟩, .bool false] 25)) from up (below_box _ _) (below_box _ _))
  clear hx1
  have a0 := HX0.out.cell 0 _ rfl
  have a1 := HX0.out.cell 1 _ rfl
  have a2 := HX0.out.cell 2 _ rfl
  have a3 := HX0.out.cell 3 _ rfl
  have a4 := HX0.out.cell 4 _ rfl
  have a5 := HX0.out.cell 5 _ rfl
  have a6 := HX0.out.cell 6 _ rfl
  have a7 := HX0.out.cell 7 _ rfl
  have g0 := HX0.out.free 0 (by show 0 < 8; decide)
  obtain ⟨z0, y0, z1, y1, z2, y2, z3, y3, z4, y4, z5, y5, z6, y6, z7, y7⟩ := cf8 HX1.out
  have l0 := HX0.out.1
  have l1 := HX1.out.1
  go_enter Tryz.func31, Tryz.ntmps31
  go_wp2_with (first
    | (go_at_call 43; refine (has_any _ _ 3 _ [6, 11, 13] _ rfl (rd_at _ _ [6, 11, 13] _ _ rfl (by simp)) (by decide)).mono ?_; rw [HV2.out]; rintro e wn ⟨rfl, hbn⟩; have hk := up (below_box _ _) hbn; have hx0 := HX0.out.keep hk; have hx1 := HX1.out.keep hk; have hbb := up HB1.out hk; clear HX0 HX1 HB1; have HX0 := Lib.hid hx0; have HX1 := Lib.hid hx1; have HB1 := Lib.hid hbb; clear hx0 hx1 hbb hk hbn; clear a0 z0 y0 a1 z1 y1 a2 z2 y2 a3 z3 y3 a4 z4 y4 a5 z5 y5 a6 z6 y6 a7 z7 y7 g0 l0 l1; have a0 := HX0.out.cell 0 _ rfl; have a1 := HX0.out.cell 1 _ rfl; have a2 := HX0.out.cell 2 _ rfl; have a3 := HX0.out.cell 3 _ rfl; have a4 := HX0.out.cell 4 _ rfl; have a5 := HX0.out.cell 5 _ rfl; have a6 := HX0.out.cell 6 _ rfl; have a7 := HX0.out.cell 7 _ rfl; have g0 := HX0.out.free 0 (by show 0 < 8; decide); obtain ⟨z0, y0, z1, y1, z2, y2, z3, y3, z4, y4, z5, y5, z6, y6, z7, y7⟩ := cf8 HX1.out; have l0 := HX0.out.1; have l1 := HX1.out.1)
    | (go_at_call 43; refine (has_any _ _ 3 _ [7, 12, 14] _ rfl (rd_at _ _ [7, 12, 14] _ _ rfl (by simp)) (by decide)).mono ?_; rw [HV1.out]; rintro e wn ⟨rfl, hbn⟩; have hk := up (below_box _ _) hbn; have hx0 := HX0.out.keep hk; have hx1 := HX1.out.keep hk; have hbb := up HB1.out hk; clear HX0 HX1 HB1; have HX0 := Lib.hid hx0; have HX1 := Lib.hid hx1; have HB1 := Lib.hid hbb; clear hx0 hx1 hbb hk hbn; clear a0 z0 y0 a1 z1 y1 a2 z2 y2 a3 z3 y3 a4 z4 y4 a5 z5 y5 a6 z6 y6 a7 z7 y7 g0 l0 l1; have a0 := HX0.out.cell 0 _ rfl; have a1 := HX0.out.cell 1 _ rfl; have a2 := HX0.out.cell 2 _ rfl; have a3 := HX0.out.cell 3 _ rfl; have a4 := HX0.out.cell 4 _ rfl; have a5 := HX0.out.cell 5 _ rfl; have a6 := HX0.out.cell 6 _ rfl; have a7 := HX0.out.cell 7 _ rfl; have g0 := HX0.out.free 0 (by show 0 < 8; decide); obtain ⟨z0, y0, z1, y1, z2, y2, z3, y3, z4, y4, z5, y5, z6, y6, z7, y7⟩ := cf8 HX1.out; have l0 := HX0.out.1; have l1 := HX1.out.1)
    | (go_at_call 53; refine (HEN.out au aq nu cu nq cq w0 _ HRS.out (upP HW0.out HB1.out)).mono ?_; rintro e w3 ⟨u, q, v, rfl, hv3, hb3⟩; have hf := hv3 w3 ⟨upP HW0.out (up HB1.out hb3), fun k _ _ => rfl⟩; generalize endS ⟨st, utf, pr, fi, pp, it, tx, bad⟩ b = r at *; have HV3 := Lib.hid hv3; clear hv3; obtain ⟨⟨rst, rutf, rpr, rfi, rps, rit, rtx, rbad⟩, rl⟩ := r; obtain ⟨A1, c1, hu1⟩ := hf.1.1.form; obtain ⟨A2, c2, hq1⟩ := hf.1.2.form; obtain ⟨A3, c3, hv1⟩ := hf.2.form; dsimp only at hu1 hq1 hv1; subst hu1; subst hq1; subst hv1; clear hf; unfold cS; dsimp only; have hx1 := HX1.out.keep hb3; have hbb := up HB1.out hb3; have hl9 := HX1.out.1; clear HX1; have HX1 := Lib.hid hx1; have HB3 := Lib.hid hbb; clear hx1 hbb; clear a0 z0 y0 a1 z1 y1 a2 z2 y2 a3 z3 y3 a4 z4 y4 a5 z5 y5 a6 z6 y6 a7 z7 y7 g0 l0 l1; obtain ⟨z0, y0, z1, y1, z2, y2, z3, y3, z4, y4, z5, y5, z6, y6, z7, y7⟩ := cf8 HX1.out; have l1 := HX1.out.1))
  refine bodyPost_ret (ret_cell rfl _ _ ⟨w.heap.size + 1, 0, none⟩ _ rfl (load_par8 _ _ _ _ _ _ _ _ _ _ (box_set8 _ _ _ _ _ _ _ _ HX1.out))) rfl ?_
  exact ⟨_, _, _, rfl, fun W hW => HV3.out W (hW.down (by omega) (grown_set8 _ _ _ _ _ _ _ _ _ _) (by omega)), below_set8 _ _ _ _ _ _ _ _ _ HB3.out (by omega)⟩
theorem one_any (p : PS) (b : UInt8) (au aq : Option Addr) (nu cu nq cq : Nat) (w0 w : World) (hr : RS w0 (.slice au nu cu) (.slice aq nq cq) p) (hw : Pre w0 w)
    (h0 : 0 ≤ p.st) (h15 : p.st < 15) (hul : p.utf.length ≤ 100000) (hi : p.tx.size ≤ 1000000) (hj : p.it.size ≤ 1000000) (hk : Ks p.ps) :
    Calls Tryz.prog 31 #[.agg (cS p (.slice au nu cu) (.slice aq nq cq)), .int .u8 (b.toNat : Int)] w (Ret2 (oneS p b) w0 w) := by
  unfold oneS
  by_cases k1 : p.st = 0 ∧ (p.utf ≠ [] ∨ 128 ≤ b.toNat)
  · rw [if_pos k1]
    by_cases k2 : p.utf = []
    · exact one_p_0 p b au aq nu cu nq cq w0 w hr hw k1.1 k2 (k1.2.resolve_left (fun e => e k2))
    · exact one_u_0 p b au aq nu cu nq cq w0 w hr hw k1.1 k2 hul
  · rw [if_neg k1]
    have kz : p.st = 0 → p.utf = [] ∧ ¬ 128 ≤ b.toNat := fun e => ⟨by
      by_cases k2 : p.utf = []
      · exact k2
      · exact absurd ⟨e, .inl k2⟩ k1, fun e2 => k1 ⟨e, .inr e2⟩⟩
    by_cases k2 : b.toNat = 24 ∨ b.toNat = 26
    · rw [if_pos k2]
      rcases k2 with k2 | k2
      · by_cases ks : p.st = 0
        · exact one_24_0 p b au aq nu cu nq cq w0 w hr hw ks (kz ks).1 k2
        · exact one_24_n p b au aq nu cu nq cq w0 w hr hw ks rfl rfl k2
      · by_cases ks : p.st = 0
        · exact one_26_0 p b au aq nu cu nq cq w0 w hr hw ks (kz ks).1 k2
        · exact one_26_n p b au aq nu cu nq cq w0 w hr hw ks rfl rfl k2
    · rw [if_neg k2]
      by_cases k3 : b.toNat = 27
      · rw [if_pos k3]
        by_cases k4 : p.st = 6 ∨ p.st = 11 ∨ p.st = 13
        · rw [if_pos k4]
          exact one_27_y p b au aq nu cu nq cq w0 w hr hw (by omega) (by omega) (by omega) rfl (decide_eq_true (by simp; omega)) k3
        · rw [if_neg k4]
          by_cases ks : p.st = 0
          · exact one_27_0 p b au aq nu cu nq cq w0 w hr hw ks (kz ks).1 k3
          · exact one_27_n p b au aq nu cu nq cq w0 w hr hw ks rfl (decide_eq_false (by simp; omega)) k3
      · rw [if_neg k3]
        have hb : b.toNat ≠ 24 ∧ b.toNat ≠ 26 ∧ b.toNat ≠ 27 := by omega
        by_cases k4 : p.st = 7 ∨ p.st = 12 ∨ p.st = 14
        · rw [if_pos k4]
          exact one_e p b au aq nu cu nq cq w0 w hr hw (by omega) (decide_eq_true (by simp; omega)) (decide_eq_false (by simp; omega)) hb
        · rw [if_neg k4]
          by_cases k5 : p.st = 6 ∨ p.st = 11 ∨ p.st = 13
          · rw [if_pos k5]
            exact one_w p b au aq nu cu nq cq w0 w hr hw (by omega) (decide_eq_false (by simp; omega)) (decide_eq_true (by simp; omega)) hb hi
          · rw [if_neg k5]
            have n1 : hasB p.st [7, 12, 14] = false := decide_eq_false (by simp; omega)
            have n2 : hasB p.st [6, 11, 13] = false := decide_eq_false (by simp; omega)
            by_cases k6 : 128 ≤ b.toNat
            · rw [if_pos k6]
              exact one_p_n p b au aq nu cu nq cq w0 w hr hw (fun e => (kz e).2 k6) n1 n2 k6
            · rw [if_neg k6]
              by_cases k7 : b.toNat < 32
              · rw [if_pos k7]
                by_cases k8 : p.st ≤ 5
                · rw [if_pos k8]
                  by_cases ks : p.st = 0
                  · exact one_c_0 p b au aq nu cu nq cq w0 w hr hw ks (kz ks).1 hb k7
                  · exact one_c_n p b au aq nu cu nq cq w0 w hr hw ks n1 n2 k8 hb k7
                · rw [if_neg k8]
                  exact one_c_h p b au aq nu cu nq cq w0 w hr hw (by omega) n1 n2 k8 hb k7
              · rw [if_neg k7]
                by_cases k9 : b.toNat = 127
                · rw [if_pos k9]
                  by_cases ks : p.st = 0
                  · exact one_127_0 p b au aq nu cu nq cq w0 w hr hw ks (kz ks).1 k9
                  · exact one_127_n p b au aq nu cu nq cq w0 w hr hw ks n1 n2 k9
                · rw [if_neg k9]
                  by_cases ks : p.st = 0
                  · exact one_g_0 p b au aq nu cu nq cq w0 w hr hw ks (kz ks).1 (by omega) (by omega) hj hk
                  · exact one_g_n p b au aq nu cu nq cq w0 w hr hw ks n1 n2 (by omega) (by omega) (by omega) hj hk
end Go.Proofs.YtmboekpomjgnnaaGreatDoor.Sta

namespace Go.Proofs.YtmboekpomjgnnaaGreatDoor.Sta
open Go.RowKit Utf Par

/-- the world w without the cells of block b -/
def kill (w : World) (b : Nat) : World := { w with heap := w.heap.setIfInBounds b hole }
theorem kill_ne (w : World) {b k : Nat} (h : k ≠ b) : (kill w b).heap[k]? = w.heap[k]? := by
  show (w.heap.setIfInBounds b _)[k]? = _
  rw [Array.getElem?_setIfInBounds, if_neg (fun e => h e.symm)]
theorem kill_cell (w : World) {b : Nat} {a : Addr} (h : a.block = b) : (kill w b).cell? a = none := by
  have h1 : (kill w b).heap[a.block]? = none ∨ (kill w b).heap[a.block]? = some hole := by
    show (w.heap.setIfInBounds b _)[a.block]? = none ∨ (w.heap.setIfInBounds b _)[a.block]? = _
    rw [Array.getElem?_setIfInBounds, if_pos h.symm, ← h]
    split
    · exact .inr rfl
    · exact .inl rfl
  unfold World.cell?
  rcases h1 with e | e <;> rw [e] <;> rfl
/-- the blocks that a call's results may lie in -/
def Yr (w0 w w' : World) (k : Nat) : Prop := (∃ o, w0.heap[k]? = some o ∧ o ≠ hole) ∨ (w.heap.size ≤ k ∧ k < w'.heap.size)
theorem kill_agr {w0 w w' : World} (hw : Pre w0 w') {b : Nat} (hb : ¬ Yr w0 w w' b) : Agr w0 w w' (kill w' b) := by
  have h1 : ∀ k, Yr w0 w w' k → k ≠ b := fun k hk e => hb (e ▸ hk)
  have h2 : (kill w' b).heap.size = w'.heap.size := Array.size_setIfInBounds
  exact ⟨⟨by rw [h2]; exact hw.size, fun k o hk hn => (kill_ne w' (h1 k (.inl ⟨o, hk, hn⟩))).trans (hw.block k o hk hn)⟩, fun k h3 h4 => kill_ne w' (h1 k (.inr ⟨h3, h4⟩))⟩
theorem add_block (x : Addr) (k : Nat) : (x.add k).block = x.block := by unfold Addr.add; split <;> rfl
theorem agr_cell {w0 w w' W : World} (h : Agr w0 w w' W) (hw : Pre w0 w') {a : Addr} (ha : Yr w0 w w' a.block) : W.cell? a = w'.cell? a :=
  World.cell?_of_block (by
    rcases ha with ⟨o, e1, e2⟩ | ⟨e1, e2⟩
    · exact (h.1.block _ o e1 e2).trans (hw.block _ o e1 e2).symm
    · exact h.2 _ e1 e2)
theorem rd_kill {w : World} {ad : Addr} {xs : List Value} (h : Rd (kill w ad.block) (some ad) xs) : xs = [] := by
  cases xs with
  | nil => rfl
  | cons x r =>
    obtain ⟨ad', e, _, hc⟩ := h 0 x rfl
    injection e with e
    subst e
    rw [kill_cell w (add_block ad 0)] at hc
    cases hc
section
variable {w0 w w' : World} (hw : Pre w0 w')
include hw
theorem rb_loc {v : Value} {bs : List UInt8} (h : ∀ W, Agr w0 w w' W → RB W v bs) : LX (Yr w0 w w') v := fun ad n c e h0 => Classical.byContradiction fun hn => by
  obtain ⟨A, c', e', _, hr⟩ := h _ (kill_agr hw hn)
  rw [e] at e'
  cases e'
  have h1 := congrArg List.length (rd_kill hr)
  rw [cB_len, List.length_nil] at h1
  omega
theorem rl_loc {v : Value} {l : List (List Int)} (h : ∀ W, Agr w0 w w' W → RL W v l) : LX (Yr w0 w w') v := fun ad n c e h0 => Classical.byContradiction fun hn => by
  obtain ⟨A, c', vs, e', _, _, _, hl, hr, _⟩ := h _ (kill_agr hw hn)
  rw [e] at e'
  cases e'
  rw [rd_kill hr, List.length_nil] at hl
  omega
theorem rl_pl {v : Value} {l : List (List Int)} (h : ∀ W, Agr w0 w w' W → RL W v l) : PL (LX (Yr w0 w w')) w' v := fun A n c j x e hj hx ad m d ex h0 => Classical.byContradiction fun hn => by
  have hY := rl_loc hw h A n c e (by omega)
  have hA := kill_agr hw hn
  obtain ⟨A', c', vs, e', _, _, _, hl, hr, hri⟩ := h _ hA
  rw [e] at e'
  cases e'
  obtain ⟨y, hy⟩ := get_some vs j (by omega)
  obtain ⟨p, hp⟩ := get_some l j (by omega)
  obtain ⟨ad', e2, _, hc⟩ := hr j y hy
  injection e2 with e2
  subst e2
  rw [agr_cell hA hw (by rw [add_block]; exact hY), hx] at hc
  injection hc with hc
  subst hc
  obtain ⟨A2, c2, e3, _, _, _, hr2⟩ := hri j x p hy hp
  rw [ex] at e3
  cases e3
  have h1 := congrArg List.length (rd_kill hr2)
  rw [cI_len, List.length_nil] at h1
  omega
theorem rv_lx {v : Value} {l : List EV} (h : ∀ W, Agr w0 w w' W → RV W v l) : LX (Yr w0 w w') v := fun ad n c e h0 => Classical.byContradiction fun hn => by
  obtain ⟨A, c', xs, e', _, _, h3, h4, _⟩ := h _ (kill_agr hw hn)
  rw [e] at e'
  cases e'
  have hl : xs.length = l.length := by rw [← h3]; simp
  obtain ⟨x, hx⟩ := get_some xs 0 (by omega)
  obtain ⟨b, o, e2, _, hr⟩ := h4 0 x hx
  injection e2 with e2
  subst e2
  have := hr 0 _ rfl
  rw [kill_cell w' (b := b) (a := ⟨b, o + 0 * 7 + 0, none⟩) rfl] at this
  cases this
theorem rv_loc {v : Value} {l : List EV} (h : ∀ W, Agr w0 w w' W → RV W v l) : ∃ A c xs, v = .slice A xs.length c ∧ xs.length ≤ c ∧ c ≤ maxLen ∧ xs.map (·.e) = l ∧ RdE w' A xs ∧ EX (Yr w0 w w') w' xs := by
  obtain ⟨A, c, xs, rfl, h1, h2, h3, h4, h5⟩ := h w' ⟨hw, fun _ _ _ => rfl⟩
  have hlen : xs.length = l.length := by rw [← h3]; simp
  refine ⟨A, c, xs, by rw [hlen], by omega, h2, h3, h4, fun x hx => ?_⟩
  obtain ⟨j, hj⟩ := List.getElem?_of_mem hx
  obtain ⟨b, o, rfl, hlt, hr⟩ := h4 j x hj
  have hjl : j < xs.length := (List.getElem?_eq_some_iff.1 hj).1
  have key : ∀ W, Agr w0 w w' W → ∃ x' : EQ, x'.e = x.e ∧ RL W (.slice x'.A x'.n x'.c) x'.e.ps ∧ ∀ i u, (cE x')[i]? = some u → W.cell? ⟨b, o + j * 7 + i, none⟩ = some u := fun W hW => by
    obtain ⟨A', c', xs', e', _, _, h3', h4', h5'⟩ := h W hW
    cases e'
    have hl' : xs'.length = l.length := by rw [← h3']; simp
    obtain ⟨x', hx'⟩ := get_some xs' j (by omega)
    obtain ⟨b', o', e2, _, hr'⟩ := h4' j x' hx'
    cases e2
    refine ⟨x', ?_, h5' x' (List.mem_of_getElem? hx'), fun i u hu => hr' i u hu⟩
    have e3 := congrArg (fun m => m[j]?) (h3'.trans h3.symm)
    simp only [List.getElem?_map, hx', hj, Option.map_some] at e3
    injection e3
  have hY : Yr w0 w w' b := Classical.byContradiction fun hn => by
    obtain ⟨x', _, _, hc⟩ := key _ (kill_agr hw hn)
    have := hc 0 _ rfl
    rw [kill_cell w' (b := b) (a := ⟨b, o + j * 7 + 0, none⟩) rfl] at this
    cases this
  have hall : ∀ W, Agr w0 w w' W → RL W (.slice x.A x.n x.c) x.e.ps := fun W hW => by
    obtain ⟨x', e1, h6, hc⟩ := key W hW
    have h7 := hc 4 _ rfl
    rw [agr_cell hW hw hY] at h7
    have h8 := hr 4 _ rfl
    rw [show o + j * 7 + 4 = o + j * 7 + 4 from rfl] at h8
    rw [h8] at h7
    injection h7 with h7
    rw [h7, ← e1]
    exact h6
  exact ⟨h5 x hx, rl_loc hw hall, rl_pl hw hall⟩
end
/-- what a call hands back, and where it lies -/
theorem Ret2.loc {r : PS × List EV} {w0 w w' : World} {e : Ending} (h : Ret2 r w0 w e w') (hw : Pre w0 w) :
    ∃ u q A c xs, e = .returned (.tuple #[.agg (cS r.1 u q), .slice A xs.length c]) ∧ PX (Yr w0 w w') w' u q r.1 ∧ xs.length ≤ c ∧ c ≤ maxLen ∧ xs.map (·.e) = r.2 ∧ RdE w' A xs ∧ EX (Yr w0 w w') w' xs ∧ Below w.heap.size w w' := by
  obtain ⟨u, q, v, rfl, h1, h2⟩ := h
  have hw' : Pre w0 w' := upP hw h2
  obtain ⟨A, c, xs, rfl, h3, h4, h5, h6, h7⟩ := rv_loc hw' fun W hW => (h1 W hW).2
  exact ⟨u, q, A, c, xs, rfl, ⟨(h1 w' ⟨hw', fun _ _ _ => rfl⟩).1, rb_loc hw' fun W hW => (h1 W hW).1.1, rl_loc hw' fun W hW => (h1 W hW).1.2, rl_pl hw' fun W hW => (h1 W hW).1.2⟩, h3, h4, h5, h6, h7, h2⟩
end Go.Proofs.YtmboekpomjgnnaaGreatDoor.Sta

namespace Go.Proofs.YtmboekpomjgnnaaGreatDoor.Sta
open Go.RowKit Utf Par

/-- w without the blocks that P tells -/
def mask (w : World) (P : Nat → Bool) : World := { w with heap := w.heap.mapIdx fun k o => if P k then hole else o }
theorem mask_at (w : World) (P : Nat → Bool) (k : Nat) : (mask w P).heap[k]? = (w.heap[k]?).map fun o => if P k then hole else o := by
  show (w.heap.mapIdx _)[k]? = _
  rw [Array.getElem?_mapIdx]
theorem mask_pre (w : World) (P : Nat → Bool) : Pre (mask w P) w := by
  refine ⟨by show (w.heap.mapIdx _).size ≤ _; simp, fun k o hk hn => ?_⟩
  rw [mask_at] at hk
  cases h : w.heap[k]? with
  | none => rw [h] at hk; cases hk
  | some o' =>
    rw [h] at hk
    simp only [Option.map_some] at hk
    injection hk with hk
    cases hP : P k with
    | true => rw [hP] at hk; exact absurd hk.symm hn
    | false => rw [hP] at hk; simp only [Bool.false_eq_true, if_false] at hk; rw [hk]
theorem mask_same (w : World) (P : Nat → Bool) (k : Nat) (h : P k = false) : (mask w P).heap[k]? = w.heap[k]? := by
  rw [mask_at, h]
  simp
theorem mask_size (w : World) (P : Nat → Bool) : (mask w P).heap.size = w.heap.size := by
  show (w.heap.mapIdx _).size = _
  simp
theorem mask_live {w : World} {P : Nat → Bool} {k : Nat} {o : Obj} (h : (mask w P).heap[k]? = some o) (hn : o ≠ hole) : P k = false ∧ k < w.heap.size := by
  have hk : k < w.heap.size := by
    have := (Array.getElem?_eq_some_iff.1 h).1
    rwa [mask_size] at this
  refine ⟨?_, hk⟩
  rw [mask_at, Array.getElem?_eq_getElem hk] at h
  simp only [Option.map_some] at h
  injection h with h
  cases hP : P k with
  | false => rfl
  | true => rw [hP] at h; exact absurd h.symm hn
/-- reading where the blocks that a slice lies in are as they were -/
theorem Rd.on {w W : World} {A : Option Addr} {xs : List Value} (h : Rd w A xs) (hs : w.heap.size ≤ W.heap.size) (ha : ∀ ad, A = some ad → 0 < xs.length → W.heap[ad.block]? = w.heap[ad.block]?) : Rd W A xs := fun j u hu => by
  obtain ⟨ad, rfl, hlt, hc⟩ := h j u hu
  have hj : j < xs.length := (List.getElem?_eq_some_iff.1 hu).1
  exact ⟨ad, rfl, Nat.lt_of_lt_of_le hlt hs, (World.cell?_of_block (by rw [add_block]; exact ha ad rfl (by omega))).trans hc⟩
theorem LX.mono {X Y : Nat → Prop} {v : Value} (h : LX X v) (hy : ∀ k, X k → Y k) : LX Y v := fun ad n c e h0 => hy _ (h ad n c e h0)
theorem PL.on {X Y : Nat → Prop} {w W : World} (ha : ∀ k, X k → W.heap[k]? = w.heap[k]?) {v : Value} (hx : LX X v) (hp : PL (LX X) w v) (hy : ∀ k, X k → Y k) : PL (LX Y) W v := fun A n c j x e hj hc => by
  refine LX.mono (hp A n c j x e hj ?_) hy
  rw [← hc]
  exact (World.cell?_of_block (by rw [add_block]; exact ha _ (hx A n c e (by omega)))).symm
section
variable {X Y : Nat → Prop} {w W : World} (hs : w.heap.size ≤ W.heap.size) (ha : ∀ k, X k → W.heap[k]? = w.heap[k]?)
include hs ha
theorem RI.on {v : Value} {zs : List Int} (h : RI w v zs) (hx : LX X v) : RI W v zs := by
  obtain ⟨A, c, rfl, h2, h3, h4, h5⟩ := h
  exact ⟨A, c, rfl, h2, h3, h4, Rd.on h5 hs fun ad e hn => ha _ (hx ad _ _ (by rw [e]) (by simpa [cI_len] using hn))⟩
theorem RB.on {v : Value} {bs : List UInt8} (h : RB w v bs) (hx : LX X v) : RB W v bs := by
  obtain ⟨A, c, rfl, h2, h3⟩ := h
  exact ⟨A, c, rfl, h2, Rd.on h3 hs fun ad e hn => ha _ (hx ad _ _ (by rw [e]) (by simpa [cB_len] using hn))⟩
theorem RL.on {v : Value} {l : List (List Int)} (h : RL w v l) (hx : LX X v) (hp : PL (LX X) w v) : RL W v l := by
  obtain ⟨A, c, vs, rfl, g2, g3, g4, g5, g6, g7⟩ := h
  refine ⟨A, c, vs, rfl, g2, g3, g4, g5, Rd.on g6 hs fun ad e hn => ha _ (hx ad _ _ (by rw [e]) (by omega)), fun j x l hj hl => ?_⟩
  obtain ⟨ad, rfl, _, hc⟩ := g6 j _ hj
  exact RI.on hs ha (g7 j x l hj hl) (hp ad _ _ j _ rfl (by have := (List.getElem?_eq_some_iff.1 hj).1; omega) hc)
theorem PX.on {u q : Value} {p : PS} (h : PX X w u q p) (hy : ∀ k, X k → Y k) : PX Y W u q p :=
  ⟨⟨RB.on hs ha h.1.1 h.2.1, RL.on hs ha h.1.2 h.2.2.1 h.2.2.2⟩, h.2.1.mono hy, h.2.2.1.mono hy, PL.on ha h.2.2.1 h.2.2.2 hy⟩
theorem EX.on {xs : List EQ} (h : EX X w xs) (hy : ∀ k, X k → Y k) : EX Y W xs := fun x hx =>
  have g := h x hx
  ⟨RL.on hs ha g.1 g.2.1 g.2.2, g.2.1.mono hy, PL.on ha g.2.1 g.2.2 hy⟩
theorem RdE.on {A : Option Addr} {n c : Nat} {xs : List EQ} (h : RdE w A xs) (hn : n = xs.length) (hx : LX X (.slice A n c)) : RdE W A xs := fun j x hj => by
  obtain ⟨b, o, rfl, hb, hr⟩ := h j x hj
  refine ⟨b, o, rfl, Nat.lt_of_lt_of_le hb hs, fun i u hu => ?_⟩
  rw [← hr i u hu]
  exact World.cell?_of_block (ha b (hx _ _ _ rfl (by have := (List.getElem?_eq_some_iff.1 hj).1; omega)))
end
theorem RS.lt {w : World} {u q : Value} {p : PS} (h : RS w u q p) : PX (fun k => k < w.heap.size) w u q p := by
  refine ⟨h, fun ad n c e h0 => RB.lt h.1 ad n c e h0, fun ad n c e h0 => RL.lt h.2 ad n c e h0, fun A n c j x e hj hx ad m d ex h0 => ?_⟩
  obtain ⟨A', c', vs, e', _, _, _, hl, hr, hi⟩ := h.2
  rw [e] at e'
  cases e'
  obtain ⟨y, hy⟩ := get_some vs j (by omega)
  obtain ⟨pp, hp⟩ := get_some p.ps j (by omega)
  obtain ⟨ad', e2, _, hc⟩ := hr j y hy
  injection e2 with e2
  subst e2
  rw [hx] at hc
  injection hc with hc
  subst hc
  exact RI.lt (hi j x pp hy hp) ad m d ex h0
theorem PX.below {X : Nat → Prop} {w : World} {u q : Value} {p : PS} (h : PX X w u q p) : PX (fun k => X k ∧ k < w.heap.size) w u q p :=
  have g := RS.lt h.1
  ⟨h.1, fun ad n c e h0 => ⟨h.2.1 ad n c e h0, g.2.1 ad n c e h0⟩, fun ad n c e h0 => ⟨h.2.2.1 ad n c e h0, g.2.2.1 ad n c e h0⟩, fun A n c j x e hj hx ad m d ex h0 => ⟨h.2.2.2 A n c j x e hj hx ad m d ex h0, g.2.2.2 A n c j x e hj hx ad m d ex h0⟩⟩
theorem EX.below {X : Nat → Prop} {w : World} {xs : List EQ} (h : EX X w xs) : EX (fun k => X k ∧ k < w.heap.size) w xs := fun x hx => by
  obtain ⟨h1, h2, h3⟩ := h x hx
  have g := RS.lt (u := .slice none 0 0) (p := ⟨0, [], 0, 0, x.e.ps, ⟨#[]⟩, ⟨#[]⟩, false⟩) ⟨RB.nil w, h1⟩
  exact ⟨h1, fun ad n c e h0 => ⟨h2 ad n c e h0, g.2.2.1 ad n c e h0⟩, fun A n c j y e hj hy ad m d ex h0 => ⟨h3 A n c j y e hj hy ad m d ex h0, g.2.2.2 A n c j y e hj hy ad m d ex h0⟩⟩
/-- a call of one's: what it hands back, and where it lies -/
def OnP (X : Nat → Prop) (r : PS × List EV) (W : World) (e : Ending) (w' : World) : Prop :=
  ∃ u q A c xs, e = .returned (.tuple #[.agg (cS r.1 u q), .slice A xs.length c]) ∧ PX (fun k => X k ∧ k < w'.heap.size) w' u q r.1 ∧ xs.length ≤ c ∧ c ≤ maxLen ∧ xs.map (·.e) = r.2 ∧ RdE w' A xs ∧ LX (fun k => X k ∧ k < w'.heap.size) (.slice A xs.length c) ∧ EX (fun k => X k ∧ k < w'.heap.size) w' xs ∧ Below W.heap.size W w'
theorem one_fed (X : Nat → Prop) (p : PS) (b : UInt8) (au aq : Option Addr) (nu cu nq cq : Nat) (w : World) (hr : PX X w (.slice au nu cu) (.slice aq nq cq) p) (hX : ∀ k, w.heap.size ≤ k → X k)
    (h0 : 0 ≤ p.st) (h15 : p.st < 15) (hul : p.utf.length ≤ 100000) (hi : p.tx.size ≤ 1000000) (hj : p.it.size ≤ 1000000) (hk : Ks p.ps) (W : World) (hW : Below w.heap.size w W) :
    Calls Tryz.prog 31 #[.agg (cS p (.slice au nu cu) (.slice aq nq cq)), .int .u8 (b.toNat : Int)] W (OnP (fun k => X k ∧ (k < w.heap.size ∨ W.heap.size ≤ k)) (oneS p b) W) := by
  obtain ⟨P, hP⟩ : ∃ P : Nat → Bool, ∀ k, P k = false ↔ X k := ⟨fun k => @decide (¬ X k) (Classical.propDecidable _), fun k => by simp⟩
  have hm : RS (mask w P) (.slice au nu cu) (.slice aq nq cq) p := (PX.on (Y := fun _ => True) (by rw [mask_size]; exact Nat.le_refl _) (fun k hk => mask_same w P k ((hP k).2 hk)) hr (fun _ _ => trivial)).1
  have hpre : Pre (mask w P) W := upP (mask_pre w P) hW
  refine (one_any p b au aq nu cu nq cq (mask w P) W hm hpre h0 h15 hul hi hj hk).mono ?_
  intro e w' h
  have hY : ∀ k, Yr (mask w P) W w' k → (X k ∧ (k < w.heap.size ∨ W.heap.size ≤ k)) ∧ k < w'.heap.size := fun k hk => by
    have h1 := hW.size
    have h2 := h.choose_spec.choose_spec.choose_spec.2.2.size
    rcases hk with ⟨o, e1, e2⟩ | ⟨e1, e2⟩
    · obtain ⟨e3, e4⟩ := mask_live e1 e2
      exact ⟨⟨(hP k).1 e3, .inl e4⟩, by omega⟩
    · exact ⟨⟨hX k (by omega), .inr e1⟩, e2⟩
  obtain ⟨u, q, A, c, xs, e1, e2, e3, e4, e5, e6, e7, e8⟩ := h.loc hpre
  have e9 : LX (Yr (mask w P) W w') (.slice A xs.length c) := by
    obtain ⟨u', q', v', f1, f2, f3⟩ := h
    rw [e1] at f1
    injection f1 with f1
    injection f1 with f1
    have f4 : v' = .slice A xs.length c := by
      have := congrArg (fun a : Array Value => a[1]?) f1
      simpa using this.symm
    subst f4
    exact rv_lx (upP hpre f3) fun W' hW' => (f2 W' hW').2
  have ag : ∀ k, Yr (mask w P) W w' k → w'.heap[k]? = w'.heap[k]? := fun _ _ => rfl
  exact ⟨u, q, A, c, xs, e1, PX.on (Nat.le_refl _) ag e2 hY, e3, e4, e5, e6, e9.mono hY, EX.on (Nat.le_refl _) ag e7 hY, e8⟩
theorem pre_len6 {u : List UInt8} (h : preB u = true) : u.length ≤ 100 := by
  cases u with
  | nil => exact Nat.zero_le _
  | cons b r =>
    have h1 := preB_fl h
    have h2 : fl b ≤ 4 := by unfold fl; repeat' split
                             all_goals omega
    simp only [List.length_cons]
    omega
theorem may_bnd {p : PS} (h : mayS p = true) : 0 ≤ p.st ∧ p.st < 15 ∧ p.utf.length ≤ 100000 ∧ p.tx.size ≤ 1000000 ∧ p.it.size ≤ 1000000 ∧ Ks p.ps := by
  have h0 := may_st h
  refine ⟨h0.1, h0.2, ?_⟩
  cases hb : p.bad with
  | true =>
    obtain ⟨e, _⟩ := may_bad h hb
    rw [e]
    exact ⟨by show 0 ≤ _; omega, by show 0 ≤ _; omega, by show 0 ≤ _; omega, by show (0 : Nat) ≤ _; omega, by intro x hx; cases hx⟩
  | false =>
    have g := (may_good hb).1 h
    refine ⟨?_, ?_, ?_, Ks.of_ok g.ps⟩
    · rcases g.utf with e | ⟨e, _⟩
      · rw [e]; show 0 ≤ _; omega
      · have := pre_len6 e; omega
    · have := g.txl; omega
    · have := g.itm; unfold mostS at this; split at this <;> omega
theorem wpList_appV2 (w : World) {ops : Array Oper} {rest : List Oper} {o : Oper} {a : Act} {Q : Exit → Act → World → Prop} (hgd : o.guard = none) (s x : Operand)
    (ho : o.op = .call { callee := .builtin .append, args := #[s, x], argTypes := #[41, 41] })
    (base : Nat) (v : Value) (xs : List EQ) (hs : a.eval s = v) (hown : OwnV w base v xs) (A : Option Addr) (m c : Nat) (ys : List EQ) (hx : a.eval x = .slice A m c) (hm : ys.length = m) (hr : RdE w A ys)
    (hsmall : xs.length + m ≤ 100000) (hbase : base ≤ w.heap.size) (h : ∀ v' w', OwnV w' base v' (xs ++ ys) → (v'.ownBlock = v.ownBlock ∨ v'.ownBlock = some w.heap.size) → w.grownBy w' v.ownBlock → wpList Tryz.prog ops Q rest (a.put o.dst v') w') : wpList Tryz.prog ops Q (o :: rest) a w :=
  wpList_plain hgd fun K hK => by
    have hrun : ∃ v' w', (Builtin.append_ #[41, 41] o.type #[v, .slice A m c]).run Tryz.prog w = .ok v' w' ∧ OwnV w' base v' (xs ++ ys) ∧ w.grownBy w' v.ownBlock ∧ (v'.ownBlock = v.ownBlock ∨ v'.ownBlock = some w.heap.size) := by
      cases A with
      | none =>
        obtain ⟨i, hi, hz, hs, hb⟩ := info_parts infoE
        obtain rfl : ys = [] := by
          cases ys with
          | nil => rfl
          | cons y r =>
            obtain ⟨b, o, h, _⟩ := hr 0 y rfl
            cases h
        obtain rfl : m = 0 := hm.symm
        have hrun : (Builtin.append_ #[41, 41] o.type #[v, .slice none 0 c]).run Tryz.prog w = .ok v w := by
          rcases hown.2 with ⟨rfl, h0⟩ | ⟨g, cap, cur, rfl, _, _, hnc, _⟩
          · simp [Builtin.append_, run_underlying Tryz.underlying41, sizeOf, typeInfo, hi, Builtin.lenOf, Builtin.firstCells]
          · simp [Builtin.append_, run_underlying Tryz.underlying41, sizeOf, typeInfo, hi, Builtin.lenOf, Builtin.firstCells, hnc, storeCells]
        exact ⟨v, w, hrun, by simpa using hown, ⟨rfl, rfl, rfl, Nat.le_refl _, fun _ _ _ => rfl⟩, .inl rfl⟩
      | some ad => exact run_appV1 w base o.type v xs hown ad m c ys hm hr hsmall hbase
    obtain ⟨v', w', hrun, h2, h3, h4⟩ := hrun
    unfold Oper.wp execOp
    simp only [ho, resolve, invoke, builtin, Sem.run_bind, Sem.run_pure, Result.andThen_ok, List.map_toArray, List.map_cons, List.map_nil, hs, hx, hrun]
    exact hK _ _ (h v' w' h2 h4 h3)
/-- what the reference's Step hands back -/
def StpPost (r : PS × List EV × Int) (w : World) (e : Ending) (w' : World) : Prop :=
  ∃ u q v, e = .returned (.tuple #[.agg (cS r.1 u q), v, .int .i64 r.2.2]) ∧ RS w' u q r.1 ∧ RV w' v r.2.1 ∧ Below w.heap.size w w'
set_option maxRecDepth 100000 in
set_option maxHeartbeats 8000000 in
theorem rstep6_any (p : PS) (b : UInt8) (au aq : Option Addr) (nu cu nq cq : Nat) (w : World) (hr : RS w (.slice au nu cu) (.slice aq nq cq) p) (h1 : nu = p.utf.length) (h2 : nq = p.ps.length) (hk : Kp p) :
    Calls Tryz.prog 16 #[.agg (cS p (.slice au nu cu) (.slice aq nq cq)), .int .u8 (b.toNat : Int)] w (StpPost (stpS p b) w) := by
  unfold stpS
  have hx1 := below_box w (.cells #[.int .i64 p.st, .slice au nu cu, .int .u8 (p.pr.toNat : Int), .int .u8 (p.fi.toNat : Int), .slice aq nq cq, .string p.it, .string p.tx, .bool p.bad] 25)
  have hx2 : Below w.heap.size w ((w.alloc (.cells #[.int .i64 p.st, .slice au nu cu, .int .u8 (p.pr.toNat : Int), .int .u8 (p.fi.toNat : Int), .slice aq nq cq, .string p.it, .string p.tx, .bool p.bad] 25)).alloc (.cells #[.int .i64 0, .slice none 0 0, .int .u8 0, .int .u8 0, .slice none 0 0, .string ⟨#[]⟩, .string ⟨#[]⟩, .bool false] 25)) := up hx1 (below_box _ _)
  have HC := Lib.hid (may_any p au aq nu cu nq cq _ (hr.keep hx2) h1 h2 hk)
  have HP := Lib.hid hr
  obtain ⟨t, ht⟩ : ∃ t, mayS p = t := ⟨_, rfl⟩
  have HT := Lib.hid ht
  have HN := Lib.hid (And.intro h1 h2)
  clear hr h1 h2 hk
  rw [ht] at HC ⊢
  clear ht
  have hp2 := (Box.new w #[.int .i64 p.st, .slice au nu cu, .int .u8 (p.pr.toNat : Int), .int .u8 (p.fi.toNat : Int), .slice aq nq cq, .string p.it, .string p.tx, .bool p.bad] 25).alloc (.cells #[.int .i64 0, .slice none 0 0, .int .u8 0, .int .u8 0, .slice none 0 0, .string ⟨#[]⟩, .string ⟨#[]⟩, .bool false] 25)
  have hz2 := Box.new (w.alloc (.cells #[.int .i64 p.st, .slice au nu cu, .int .u8 (p.pr.toNat : Int), .int .u8 (p.fi.toNat : Int), .slice aq nq cq, .string p.it, .string p.tx, .bool p.bad] 25)) #[.int .i64 0, .slice none 0 0, .int .u8 0, .int .u8 0, .slice none 0 0, .string ⟨#[]⟩, .string ⟨#[]⟩, .bool false] 25
  rw [World.size_alloc] at hz2
  have HP2 := Lib.hid hp2
  have HZ2 := Lib.hid hz2
  have HX2 := Lib.hid hx2
  clear hx1 hx2 hp2 hz2
  unfold cS at HC HX2 ⊢
  cases t with
  | false =>
    rw [if_neg (by decide)]
    go_enter Tryz.func16, Tryz.ntmps16
    go_wp2_with (go_at_call 21; refine HC.out.mono ?_; rintro e w3 ⟨rfl, hb3⟩; have hz3 := HZ2.out.keep hb3; have hp3 := HP2.out.keep hb3; obtain ⟨z0, v0, z1, v1, z2, v2, z3, v3, z4, v4, z5, v5, z6, v6, z7, v7⟩ := cf8 hz3; obtain ⟨y0, u0, y1, u1, y2, u2, y3, u3, y4, u4, y5, u5, y6, u6, y7, u7⟩ := cf8 hp3; have HZ3 := Lib.hid hz3; have HP3 := Lib.hid hp3; have HB3 := Lib.hid (up HX2.out hb3); have l3 : w.heap.size + 1 < w3.heap.size := hz3.1; have l2 : w.heap.size < w3.heap.size := hp3.1; clear hz3 hp3 hb3)
    refine bodyPost_ret (ret_cell3 rfl _ _ ⟨w.heap.size + 1, 0, none⟩ _ rfl (load_par8 _ _ _ _ _ _ _ _ _ _ (box_set8 _ _ _ _ _ _ _ _ HZ3.out))) rfl ?_
    exact ⟨_, _, _, rfl, RS.nil _ _ rfl rfl, RV.nil _, below_set8 _ _ _ _ _ _ _ _ _ HB3.out (by omega)⟩
  | true =>
    rw [if_pos rfl]
    obtain ⟨b1, b2, b3, b4, b5, b6⟩ := may_bnd HT.out
    have HG := Lib.hid (fun W (h : Below w.heap.size w W) => one_any p b au aq nu cu nq cq w W HP.out (Pre.of_below h) b1 b2 b3 b4 b5 b6)
    clear b1 b2 b3 b4 b5 b6
    unfold cS at HG
    go_enter Tryz.func16, Tryz.ntmps16
    go_wp2_with (first
      | (go_at_call 21; refine HC.out.mono ?_; rintro e w3 ⟨rfl, hb3⟩; have hz3 := HZ2.out.keep hb3; have hp3 := HP2.out.keep hb3; obtain ⟨z0, v0, z1, v1, z2, v2, z3, v3, z4, v4, z5, v5, z6, v6, z7, v7⟩ := cf8 hz3; obtain ⟨y0, u0, y1, u1, y2, u2, y3, u3, y4, u4, y5, u5, y6, u6, y7, u7⟩ := cf8 hp3; have HZ3 := Lib.hid hz3; have HP3 := Lib.hid hp3; have HB3 := Lib.hid (up HX2.out hb3); have l3 : w.heap.size + 1 < w3.heap.size := hz3.1; have l2 : w.heap.size < w3.heap.size := hp3.1; clear hz3 hp3 hb3)
      | (go_at_call 31; refine (HG.out _ HB3.out).mono ?_; rintro e w6 ⟨u, q, v, rfl, hv6, hb6⟩; have hf := hv6 w6 ⟨Pre.of_below (up HB3.out hb6), fun k _ _ => rfl⟩; generalize oneS p b = r at *; obtain ⟨⟨gst, gutf, gpr, gfi, gps, git, gtx, gbad⟩, gl⟩ := r; have HV6 := Lib.hid hv6; clear hv6; obtain ⟨A7, c7, hu1⟩ := hf.1.1.form; obtain ⟨A8, c8, hq1⟩ := hf.1.2.form; obtain ⟨A9, c9, hv1⟩ := hf.2.form; dsimp only at hu1 hq1 hv1; subst hu1; subst hq1; subst hv1; clear hf; unfold cS; dsimp only; have hx6 := HZ3.out.keep hb6; have HB6 := Lib.hid hb6; clear z0 v0 y0 u0 z1 v1 y1 u1 z2 v2 y2 u2 z3 v3 y3 u3 z4 v4 y4 u4 z5 v5 y5 u5 z6 v6 y6 u6 z7 v7 y7 u7 hb6; obtain ⟨z0, v0, z1, v1, z2, v2, z3, v3, z4, v4, z5, v5, z6, v6, z7, v7⟩ := cf8 hx6; have l6 := hx6.1; have HX6 := Lib.hid hx6; clear hx6))
    have hbx := box_set8 (.int .i64 gst) (.slice A7 gutf.length c7) (.int .u8 (gpr.toNat : Int)) (.int .u8 (gfi.toNat : Int)) (.slice A8 gps.length c8) (.string git) (.string gtx) (.bool gbad) HX6.out
    have gs := grown_set8 w6 (w.heap.size + 1) (.int .i64 gst) (.slice A7 gutf.length c7) (.int .u8 (gpr.toNat : Int)) (.int .u8 (gfi.toNat : Int)) (.slice A8 gps.length c8) (.string git) (.string gtx) (.bool gbad)
    have hbs := below_set8 (w.heap.size + 1) (.int .i64 gst) (.slice A7 gutf.length c7) (.int .u8 (gpr.toNat : Int)) (.int .u8 (gfi.toNat : Int)) (.slice A8 gps.length c8) (.string git) (.string gtx) (.bool gbad) (up HB3.out HB6.out) (by omega)
    generalize ((((((((w6.setCell ⟨w.heap.size + 1, 0, none⟩ (.int .i64 gst)).setCell ⟨w.heap.size + 1, 1, none⟩ (.slice A7 gutf.length c7)).setCell ⟨w.heap.size + 1, 2, none⟩ (.int .u8 (gpr.toNat : Int))).setCell ⟨w.heap.size + 1, 3, none⟩ (.int .u8 (gfi.toNat : Int))).setCell ⟨w.heap.size + 1, 4, none⟩ (.slice A8 gps.length c8)).setCell ⟨w.heap.size + 1, 5, none⟩ (.string git)).setCell ⟨w.heap.size + 1, 6, none⟩ (.string gtx)).setCell ⟨w.heap.size + 1, 7, none⟩ (.bool gbad)) = W1 at hbx gs hbs ⊢
    refine bodyPost_ret (ret_cell3 rfl _ _ ⟨w.heap.size + 1, 0, none⟩ _ rfl (load_par8 _ _ _ _ _ _ _ _ _ _ (hbx.alloc _))) rfl ?_
    have hbw := up hbs (below_box W1 (.cells #[.int .i64 gst, .slice A7 gutf.length c7, .int .u8 (gpr.toNat : Int), .int .u8 (gfi.toNat : Int), .slice A8 gps.length c8, .string git, .string gtx, .bool gbad] 25))
    have hag := HV6.out _ ⟨Pre.of_below hbw, fun k h1 h2 => ((below_box W1 _).block k (Nat.lt_of_lt_of_le h2 gs.size)).trans (gs.block k h2 (by intro e; injection e with e; omega))⟩
    exact ⟨_, _, _, rfl, hag.1, hag.2, hbw⟩
end Go.Proofs.YtmboekpomjgnnaaGreatDoor.Sta

namespace Go.Proofs.YtmboekpomjgnnaaGreatDoor.Sta
open Go.RowKit Utf Par

/-- the memory of Feed's loop: the parse in its box, the result's box, a row of events of the call's own, slices that lie elsewhere -/
def Fin (X : Nat → Prop) (w : World) (r : PS × List EV) (v : Value) (wr : World) : Prop :=
  ∃ u q xs, Box wr w.heap.size (cS r.1 u q).toList ∧ Box wr (w.heap.size + 1) [.int .i64 0, .slice none 0 0, .int .u8 0, .int .u8 0, .slice none 0 0, .string ⟨#[]⟩, .string ⟨#[]⟩, .bool false] ∧ OwnV wr (w.heap.size + 2) v xs ∧ xs.map (·.e) = r.2 ∧
    PX (fun k => X k ∧ k ≠ w.heap.size ∧ k ≠ w.heap.size + 1 ∧ some k ≠ v.ownBlock) wr u q r.1 ∧ EX (fun k => X k ∧ k ≠ w.heap.size ∧ k ≠ w.heap.size + 1 ∧ some k ≠ v.ownBlock) wr xs ∧ Below w.heap.size w wr
/-- what q, l := one(p, b[i]) leaves -/
def Fed9 (X : Nat → Prop) (wr : World) (r : PS × List EV) (s9 s10 : Value) (wx : World) : Prop :=
  ∃ g u q A c xs, s9 = .pointer (some ⟨g, 0, none⟩) ∧ s10 = .slice A xs.length c ∧ Box wx g (cS r.1 u q).toList ∧ wr.heap.size ≤ g ∧ PX (fun k => X k ∧ k < wx.heap.size) wx u q r.1 ∧ xs.length ≤ c ∧ c ≤ maxLen ∧ xs.map (·.e) = r.2 ∧ RdE wx A xs ∧ LX (fun k => X k ∧ k < wx.heap.size) (.slice A xs.length c) ∧ EX (fun k => X k ∧ k < wx.heap.size) wx xs ∧ Below wr.heap.size wr wx
set_option maxRecDepth 100000 in
set_option maxHeartbeats 8000000 in
theorem rfeed_any (X : Nat → Prop) (p : PS) (au aq A : Option Addr) (nu cu nq cq nb cb : Nat) (bs : List UInt8) (w : World) (hpx : PX X w (.slice au nu cu) (.slice aq nq cq) p) (hX : ∀ k, w.heap.size ≤ k → X k) (h1 : nu = p.utf.length) (h2 : nq = p.ps.length) (hk : Kp p) (hbs : Rd w A (cB bs)) (hnb : nb = bs.length) (hb6 : nb ≤ 1000000) :
    Calls Tryz.prog 19 #[.agg (cS p (.slice au nu cu) (.slice aq nq cq)), .slice A nb cb] w (FedPost X (fedS p bs) w) := by
  have hr := hpx.1
  have HPX := Lib.hid (PX.below hpx)
  have HX := Lib.hid hX
  have HBS := Lib.hid hbs
  have HNB := Lib.hid hnb
  clear hpx hX hbs hnb
  unfold fedS
  have hx1 := below_box w (.cells #[.int .i64 p.st, .slice au nu cu, .int .u8 (p.pr.toNat : Int), .int .u8 (p.fi.toNat : Int), .slice aq nq cq, .string p.it, .string p.tx, .bool p.bad] 25)
  have hx2 : Below w.heap.size w ((w.alloc (.cells #[.int .i64 p.st, .slice au nu cu, .int .u8 (p.pr.toNat : Int), .int .u8 (p.fi.toNat : Int), .slice aq nq cq, .string p.it, .string p.tx, .bool p.bad] 25)).alloc (.cells #[.int .i64 0, .slice none 0 0, .int .u8 0, .int .u8 0, .slice none 0 0, .string ⟨#[]⟩, .string ⟨#[]⟩, .bool false] 25)) := up hx1 (below_box _ _)
  have HC := Lib.hid (may_any p au aq nu cu nq cq _ (hr.keep hx2) h1 h2 hk)
  have HP := Lib.hid hr
  obtain ⟨t, ht⟩ : ∃ t, mayS p = t := ⟨_, rfl⟩
  have HT := Lib.hid ht
  have HN := Lib.hid (And.intro h1 h2)
  clear hr h1 h2 hk
  rw [ht] at HC ⊢
  clear ht
  have hp2 := (Box.new w #[.int .i64 p.st, .slice au nu cu, .int .u8 (p.pr.toNat : Int), .int .u8 (p.fi.toNat : Int), .slice aq nq cq, .string p.it, .string p.tx, .bool p.bad] 25).alloc (.cells #[.int .i64 0, .slice none 0 0, .int .u8 0, .int .u8 0, .slice none 0 0, .string ⟨#[]⟩, .string ⟨#[]⟩, .bool false] 25)
  have hz2 := Box.new (w.alloc (.cells #[.int .i64 p.st, .slice au nu cu, .int .u8 (p.pr.toNat : Int), .int .u8 (p.fi.toNat : Int), .slice aq nq cq, .string p.it, .string p.tx, .bool p.bad] 25)) #[.int .i64 0, .slice none 0 0, .int .u8 0, .int .u8 0, .slice none 0 0, .string ⟨#[]⟩, .string ⟨#[]⟩, .bool false] 25
  rw [World.size_alloc] at hz2
  have HP2 := Lib.hid hp2
  have HZ2 := Lib.hid hz2
  have HX2 := Lib.hid hx2
  clear hx1 hx2 hp2 hz2
  unfold cS at HC HX2 ⊢
  cases t with
  | false =>
    rw [if_neg (by decide)]
    go_enter Tryz.func19, Tryz.ntmps19
    go_wp2_with (go_at_call 21; refine HC.out.mono ?_; rintro e w3 ⟨rfl, hb3⟩; have hz3 := HZ2.out.keep hb3; have hp3 := HP2.out.keep hb3; obtain ⟨z0, v0, z1, v1, z2, v2, z3, v3, z4, v4, z5, v5, z6, v6, z7, v7⟩ := cf8 hz3; obtain ⟨y0, u0, y1, u1, y2, u2, y3, u3, y4, u4, y5, u5, y6, u6, y7, u7⟩ := cf8 hp3; have HZ3 := Lib.hid hz3; have HP3 := Lib.hid hp3; have HB3 := Lib.hid (up HX2.out hb3); have l3 : w.heap.size + 1 < w3.heap.size := hz3.1; have l2 : w.heap.size < w3.heap.size := hp3.1; clear hz3 hp3 hb3)
    refine bodyPost_ret (ret_cell3 rfl _ _ ⟨w.heap.size + 1, 0, none⟩ _ rfl (load_par8 _ _ _ _ _ _ _ _ _ _ (box_set8 _ _ _ _ _ _ _ _ HZ3.out))) rfl ?_
    exact ⟨_, _, _, [], rfl, PX.nil _ _ _ rfl rfl, OwnV.nil _ _, rfl, (fun x hx => by cases hx), below_set8 _ _ _ _ _ _ _ _ _ HB3.out (by omega)⟩
  | true =>
    rw [if_pos rfl]
    by_cases hbig : 4096 < nb
    · rw [if_pos (by rw [← HNB.out]; exact hbig)]
      have d1 : decide ((4096 : Int) < (nb : Int)) = true := by simp; omega
      go_enter Tryz.func19, Tryz.ntmps19
      go_wp2_with (go_at_call 21; refine HC.out.mono ?_; rintro e w3 ⟨rfl, hb3⟩; have hz3 := HZ2.out.keep hb3; have hp3 := HP2.out.keep hb3; obtain ⟨z0, v0, z1, v1, z2, v2, z3, v3, z4, v4, z5, v5, z6, v6, z7, v7⟩ := cf8 hz3; obtain ⟨y0, u0, y1, u1, y2, u2, y3, u3, y4, u4, y5, u5, y6, u6, y7, u7⟩ := cf8 hp3; have HZ3 := Lib.hid hz3; have HP3 := Lib.hid hp3; have HB3 := Lib.hid (up HX2.out hb3); have l3 : w.heap.size + 1 < w3.heap.size := hz3.1; have l2 : w.heap.size < w3.heap.size := hp3.1; clear hz3 hp3 hb3)
      refine bodyPost_ret (ret_cell3 rfl _ _ ⟨w.heap.size + 1, 0, none⟩ _ rfl (load_par8 _ _ _ _ _ _ _ _ _ _ (box_set8 _ _ _ _ _ _ _ _ HZ3.out))) rfl ?_
      exact ⟨_, _, _, [], rfl, PX.nil _ _ _ rfl rfl, OwnV.nil _ _, rfl, (fun x hx => by cases hx), below_set8 _ _ _ _ _ _ _ _ _ HB3.out (by omega)⟩
    · rw [if_neg (by rw [← HNB.out]; exact hbig)]
      have d1 : decide ((4096 : Int) < (nb : Int)) = false := by simp; omega
      go_enter Tryz.func19, Tryz.ntmps19
      go_wp2_with (go_at_call 21; refine HC.out.mono ?_; rintro e w3 ⟨rfl, hb3⟩; have hz3 := HZ2.out.keep hb3; have hp3 := HP2.out.keep hb3; obtain ⟨z0, v0, z1, v1, z2, v2, z3, v3, z4, v4, z5, v5, z6, v6, z7, v7⟩ := cf8 hz3; obtain ⟨y0, u0, y1, u1, y2, u2, y3, u3, y4, u4, y5, u5, y6, u6, y7, u7⟩ := cf8 hp3; have HZ3 := Lib.hid hz3; have HP3 := Lib.hid hp3; have HB3 := Lib.hid (up HX2.out hb3); have l3 : w.heap.size + 1 < w3.heap.size := hz3.1; have l2 : w.heap.size < w3.heap.size := hp3.1; clear hz3 hp3 hb3)
      clear z0 v0 y0 u0 z1 v1 y1 u1 z2 v2 y2 u2 z3 v3 y3 u3 z4 v4 y4 u4 z5 v5 y5 u5 z6 v6 y6 u6 z7 v7 y7 u7
      go_loopw [7, 8] (fun v i wr => ∃ k : Nat, k ≤ nb ∧ i = .int .i64 k ∧ Hid (Fin X w (runS (p, []) (bs.take k)) v wr)) (fun _ i _ => nb - (intOf i).toNat)
      case atStart => exact ⟨0, Nat.zero_le _, rfl, _, _, [], HP3.out, HZ3.out, OwnV.nil _ _, rfl, PX.on HB3.out.size (fun k hk => HB3.out.block k hk.2) HPX.out (fun k hk => ⟨hk.1, by omega, by omega, by simp [Value.ownBlock]⟩), (fun x hx => by cases hx), HB3.out⟩
      case round =>
        obtain ⟨k, hk, rfl, hid⟩ := hrel
        obtain ⟨u8, q8, ys, hx8, hz8, hv8, hl8, hp8, he8, hb8⟩ := hid.out
        clear hid
        have hmay := run_may (bs.take k) (p, []) HT.out
        have hlen := run_len (bs.take k) (p, [])
        have htk := List.length_take_le k bs
        by_cases hlt : k < nb
        · obtain ⟨c, hc⟩ := get_some bs k (by rw [← HNB.out]; exact hlt)
          obtain ⟨ad, hA, hal, hcell⟩ := (HBS.out.below hb8) k _ (cB_at bs k c hc)
          subst hA
          have hRS := runS_take (p, []) bs k c hc
          have hyl : ys.length ≤ 2 * nb := by
            have h3 := congrArg List.length hl8
            rw [List.length_map] at h3
            have h4 := HNB.out
            simp only [List.length_nil] at hlen
            omega
          obtain ⟨b1, b2, b3, b4, b5, b6⟩ := may_bnd hmay
          clear hmay hlen htk hc
          generalize runS (p, []) (bs.take k) = R1 at *
          obtain ⟨⟨st8, utf8, pr8, fi8, pp8, it8, tx8, bad8⟩, L8⟩ := R1
          dsimp only at *
          obtain ⟨Au8, cu8, rfl⟩ := hp8.1.1.form
          obtain ⟨Aq8, cq8, rfl⟩ := hp8.1.2.form
          have hone := one_fed (fun k => X k ∧ k ≠ w.heap.size ∧ k ≠ w.heap.size + 1 ∧ some k ≠ u7.ownBlock) ⟨st8, utf8, pr8, fi8, pp8, it8, tx8, bad8⟩ c Au8 Aq8 utf8.length cu8 pp8.length cq8 wr hp8
            (fun k hk => ⟨HX.out k (Nat.le_trans hb8.size hk), by have := hx8.1; omega, by have := hz8.1; omega, fun e => by have := hv8.blk k e.symm; omega⟩) b1 b2 b3 b4 b5 b6
          obtain ⟨R2, hR2⟩ : ∃ R2, oneS ⟨st8, utf8, pr8, fi8, pp8, it8, tx8, bad8⟩ c = R2 := ⟨_, rfl⟩
          rw [hR2] at hone hRS
          obtain ⟨⟨st9, utf9, pr9, fi9, pp9, it9, tx9, bad9⟩, L9⟩ := R2
          have hel : L9.length ≤ 2 := by have h3 := one_len ⟨st8, utf8, pr8, fi8, pp8, it8, tx8, bad8⟩ c; rw [hR2] at h3; exact h3
          have HEL := Lib.hid hel
          clear hel
          have HONE := Lib.hid hone
          unfold cS at HONE hx8
          dsimp only at HONE hx8
          have HX8 := Lib.hid hx8
          have HZ8 := Lib.hid hz8
          have HV8 := Lib.hid hv8
          have HL8 := Lib.hid hl8
          have HP8 := Lib.hid hp8
          have HE8 := Lib.hid he8
          have HB8 := Lib.hid hb8
          have HRS := Lib.hid hRS
          have HYL := Lib.hid hyl
          have i1 : (0 : Int) ≤ (k : Int) := by omega
          have i2 : (k : Int) < (nb : Int) := by omega
          have HK8 := Lib.hid (show ∀ W, Below wr.heap.size wr W → W.cell? ⟨w.heap.size, 0, none⟩ = some (.int .i64 st8) ∧ W.cell? ⟨w.heap.size, 1, none⟩ = some (.slice Au8 utf8.length cu8) ∧ W.cell? ⟨w.heap.size, 2, none⟩ = some (.int .u8 (pr8.toNat : Int)) ∧ W.cell? ⟨w.heap.size, 3, none⟩ = some (.int .u8 (fi8.toNat : Int)) ∧ W.cell? ⟨w.heap.size, 4, none⟩ = some (.slice Aq8 pp8.length cq8) ∧ W.cell? ⟨w.heap.size, 5, none⟩ = some (.string it8) ∧ W.cell? ⟨w.heap.size, 6, none⟩ = some (.string tx8) ∧ W.cell? ⟨w.heap.size, 7, none⟩ = some (.bool bad8) ∧ W.cell? (ad.add k) = some (.int .u8 (c.toNat : Int)) ∧ Below wr.heap.size wr W from fun W hW => ⟨(HX8.out.keep hW).cell 0 _ rfl, (HX8.out.keep hW).cell 1 _ rfl, (HX8.out.keep hW).cell 2 _ rfl, (HX8.out.keep hW).cell 3 _ rfl, (HX8.out.keep hW).cell 4 _ rfl, (HX8.out.keep hW).cell 5 _ rfl, (HX8.out.keep hW).cell 6 _ rfl, (HX8.out.keep hW).cell 7 _ rfl, (hW.cell (p := ad.add k) (by rw [add_block]; exact hal)).trans hcell, hW⟩)
          have D := (Below.refl wr.heap.size wr).drew
          clear hone hx8 hz8 hv8 hl8 hp8 he8 hb8 hRS hyl b1 b2 b3 b4 b5 b6 hR2 hcell
          go_upto_region 9 with fail
          go_cut [9, 10] from 25 to 33 (fun s9 s10 wx => Fed9 (fun k => X k ∧ k ≠ w.heap.size ∧ k ≠ w.heap.size + 1 ∧ some k ≠ u7.ownBlock) wr (⟨st9, utf9, pr9, fi9, pp9, it9, tx9, bad9⟩, L9) s9 s10 wx)
          case first =>
            go_region_held3 (fun W => W.cell? ⟨w.heap.size, 0, none⟩ = some (.int .i64 st8) ∧ W.cell? ⟨w.heap.size, 1, none⟩ = some (.slice Au8 utf8.length cu8) ∧ W.cell? ⟨w.heap.size, 2, none⟩ = some (.int .u8 (pr8.toNat : Int)) ∧ W.cell? ⟨w.heap.size, 3, none⟩ = some (.int .u8 (fi8.toNat : Int)) ∧ W.cell? ⟨w.heap.size, 4, none⟩ = some (.slice Aq8 pp8.length cq8) ∧ W.cell? ⟨w.heap.size, 5, none⟩ = some (.string it8) ∧ W.cell? ⟨w.heap.size, 6, none⟩ = some (.string tx8) ∧ W.cell? ⟨w.heap.size, 7, none⟩ = some (.bool bad8) ∧ W.cell? (ad.add k) = some (.int .u8 (c.toNat : Int)) ∧ Below wr.heap.size wr W)
              (first | with_reducible exact HK8.out _ D | with_reducible exact HK8.out _ ((Below.alloc (Below.refl wr.heap.size wr) (Nat.le_refl _) _).drew) | with_reducible exact HK8.out _ (Below.alloc D D.size _) | with_reducible exact HK8.out _ f3 | with_reducible exact HK8.out _ (Below.alloc f3 f3.size _) | with_reducible exact HK8.out _ (below_set8 _ _ _ _ _ _ _ _ _ (Below.alloc f3 f3.size _) f3.size) | with_reducible exact HK8.out _ (below_set8 _ _ _ _ _ _ _ _ _ f3 (Nat.le_refl _)) | with_reducible assumption)
              (first
                | (go_at_call 31; (with_reducible refine (HONE.out _ D).mono ?_); rintro e W2 ⟨u, q, A, c2, xs, he0, hp, hc1, hc2, hm, hrd, hlx, he, hb⟩; have he1 : e = .returned (.tuple #[.agg #[.int .i64 st9, u, .int .u8 (pr9.toNat : Int), .int .u8 (fi9.toNat : Int), q, .string it9, .string tx9, .bool bad9], .slice A xs.length c2]) := he0; clear he0; subst he1; obtain ⟨Au9, cu9, rfl⟩ := hp.1.1.form; obtain ⟨Aq9, cq9, rfl⟩ := hp.1.2.form; have HP9 := Lib.hid hp; have HC9 := Lib.hid (And.intro hc1 hc2); have HM9 := Lib.hid hm; have HR9 := Lib.hid hrd; have HL9 := Lib.hid hlx; have HE9 := Lib.hid he; have HB9 := Lib.hid hb; have f3 : Below wr.heap.size wr W2 := (D).trans (hb.mono (D).size); clear hp hc1 hc2 hm hrd hlx he hb)
                | (go_at_call 31; (with_reducible refine (HONE.out _ ((Below.alloc (Below.refl wr.heap.size wr) (Nat.le_refl _) _).drew)).mono ?_); rintro e W2 ⟨u, q, A, c2, xs, he0, hp, hc1, hc2, hm, hrd, hlx, he, hb⟩; have he1 : e = .returned (.tuple #[.agg #[.int .i64 st9, u, .int .u8 (pr9.toNat : Int), .int .u8 (fi9.toNat : Int), q, .string it9, .string tx9, .bool bad9], .slice A xs.length c2]) := he0; clear he0; subst he1; obtain ⟨Au9, cu9, rfl⟩ := hp.1.1.form; obtain ⟨Aq9, cq9, rfl⟩ := hp.1.2.form; have HP9 := Lib.hid hp; have HC9 := Lib.hid (And.intro hc1 hc2); have HM9 := Lib.hid hm; have HR9 := Lib.hid hrd; have HL9 := Lib.hid hlx; have HE9 := Lib.hid he; have HB9 := Lib.hid hb; have f3 : Below wr.heap.size wr W2 := (((Below.alloc (Below.refl wr.heap.size wr) (Nat.le_refl _) _).drew)).trans (hb.mono (((Below.alloc (Below.refl wr.heap.size wr) (Nat.le_refl _) _).drew)).size); have hx3 : Box W2 wr.heap.size [.int .i64 0, .slice none 0 0, .int .u8 0, .int .u8 0, .slice none 0 0, .string ⟨#[]⟩, .string ⟨#[]⟩, .bool false] := (by first | with_reducible exact (Box.new wr _ _).drew.keep hb | with_reducible exact (Box.new wr.drew _ _).keep hb); obtain ⟨z0, v0, z1, v1, z2, v2, z3, v3, z4, v4, z5, v5, z6, v6, z7, v7⟩ := cf8 hx3; have HX3 := Lib.hid hx3; clear hx3; clear hp hc1 hc2 hm hrd hlx he hb)
                | (go_at_call 31; (with_reducible refine (HONE.out _ (Below.alloc D D.size _)).mono ?_); rintro e W2 ⟨u, q, A, c2, xs, he0, hp, hc1, hc2, hm, hrd, hlx, he, hb⟩; have he1 : e = .returned (.tuple #[.agg #[.int .i64 st9, u, .int .u8 (pr9.toNat : Int), .int .u8 (fi9.toNat : Int), q, .string it9, .string tx9, .bool bad9], .slice A xs.length c2]) := he0; clear he0; subst he1; obtain ⟨Au9, cu9, rfl⟩ := hp.1.1.form; obtain ⟨Aq9, cq9, rfl⟩ := hp.1.2.form; have HP9 := Lib.hid hp; have HC9 := Lib.hid (And.intro hc1 hc2); have HM9 := Lib.hid hm; have HR9 := Lib.hid hrd; have HL9 := Lib.hid hlx; have HE9 := Lib.hid he; have HB9 := Lib.hid hb; have f3 : Below wr.heap.size wr W2 := ((Below.alloc D D.size _)).trans (hb.mono ((Below.alloc D D.size _)).size); have hx3 : Box W2 wr.heap.size [.int .i64 0, .slice none 0 0, .int .u8 0, .int .u8 0, .slice none 0 0, .string ⟨#[]⟩, .string ⟨#[]⟩, .bool false] := (by first | with_reducible exact (Box.new wr _ _).drew.keep hb | with_reducible exact (Box.new wr.drew _ _).keep hb); obtain ⟨z0, v0, z1, v1, z2, v2, z3, v3, z4, v4, z5, v5, z6, v6, z7, v7⟩ := cf8 hx3; have HX3 := Lib.hid hx3; clear hx3; clear hp hc1 hc2 hm hrd hlx he hb))
            · have hx9 := Box.new W2 (cS ⟨st9, utf9, pr9, fi9, pp9, it9, tx9, bad9⟩ (.slice Au9 utf9.length cu9) (.slice Aq9 pp9.length cq9)) 25
              have hb9 := below_box W2 (.cells (cS ⟨st9, utf9, pr9, fi9, pp9, it9, tx9, bad9⟩ (.slice Au9 utf9.length cu9) (.slice Aq9 pp9.length cq9)) 25)
              go_wp2_with fail
              go_meet
              case rel => exact ⟨W2.heap.size, _, _, A, c2, xs, rfl, rfl, hx9, f3.size, PX.on hb9.size (fun k hk => hb9.block k hk.2) HP9.out (fun k hk => ⟨hk.1.1, Nat.lt_of_lt_of_le hk.2 hb9.size⟩), HC9.out.1, HC9.out.2, HM9.out, RdE.on hb9.size (fun k hk => hb9.block k hk.2) HR9.out rfl HL9.out, HL9.out.mono (fun k hk => ⟨hk.1.1, Nat.lt_of_lt_of_le hk.2 hb9.size⟩), EX.on hb9.size (fun k hk => hb9.block k hk.2) HE9.out (fun k hk => ⟨hk.1.1, Nat.lt_of_lt_of_le hk.2 hb9.size⟩), up f3 hb9⟩
            · have gs := grown_set8 W2 wr.heap.size (.int .i64 st9) (.slice Au9 utf9.length cu9) (.int .u8 (pr9.toNat : Int)) (.int .u8 (fi9.toNat : Int)) (.slice Aq9 pp9.length cq9) (.string it9) (.string tx9) (.bool bad9)
              have hx9 := box_set8 (.int .i64 st9) (.slice Au9 utf9.length cu9) (.int .u8 (pr9.toNat : Int)) (.int .u8 (fi9.toNat : Int)) (.slice Aq9 pp9.length cq9) (.string it9) (.string tx9) (.bool bad9) HX3.out
              have hd9 := below_set8 wr.heap.size (.int .i64 st9) (.slice Au9 utf9.length cu9) (.int .u8 (pr9.toNat : Int)) (.int .u8 (fi9.toNat : Int)) (.slice Aq9 pp9.length cq9) (.string it9) (.string tx9) (.bool bad9) f3 (Nat.le_refl _)
              generalize ((((((((W2.setCell ⟨wr.heap.size, 0, none⟩ (.int .i64 st9)).setCell ⟨wr.heap.size, 1, none⟩ (.slice Au9 utf9.length cu9)).setCell ⟨wr.heap.size, 2, none⟩ (.int .u8 (pr9.toNat : Int))).setCell ⟨wr.heap.size, 3, none⟩ (.int .u8 (fi9.toNat : Int))).setCell ⟨wr.heap.size, 4, none⟩ (.slice Aq9 pp9.length cq9)).setCell ⟨wr.heap.size, 5, none⟩ (.string it9)).setCell ⟨wr.heap.size, 6, none⟩ (.string tx9)).setCell ⟨wr.heap.size, 7, none⟩ (.bool bad9)) = W8 at gs hx9 hd9 ⊢
              have hz9 : ∀ o, (wr.alloc o).drew.heap.size = wr.heap.size + 1 := fun o => World.size_alloc ..
              have GS := Lib.hid gs
              have HX9' := Lib.hid hx9
              have HD9 := Lib.hid hd9
              clear gs hx9 hd9 z0 z1 z2 z3 z4 z5 z6 z7 v0 v1 v2 v3 v4 v5 v6 v7
              go_wp2_with fail
              go_meet
              case rel =>
                have gs := GS.out
                refine ⟨wr.heap.size, _, _, A, c2, xs, rfl, rfl, HX9'.out, Nat.le_refl _, PX.on gs.size (fun k hk => gs.block k hk.2 ?_) HP9.out (fun k hk => ⟨hk.1.1, Nat.lt_of_lt_of_le hk.2 gs.size⟩), HC9.out.1, HC9.out.2, HM9.out, RdE.on gs.size (fun k hk => gs.block k hk.2 ?_) HR9.out rfl HL9.out, HL9.out.mono (fun k hk => ⟨hk.1.1, Nat.lt_of_lt_of_le hk.2 gs.size⟩), EX.on gs.size (fun k hk => gs.block k hk.2 ?_) HE9.out (fun k hk => ⟨hk.1.1, Nat.lt_of_lt_of_le hk.2 gs.size⟩), HD9.out⟩
                all_goals
                  intro e; injection e with e
                  rcases hk.1.2 with h3 | h3
                  · omega
                  · have h4 := Nat.le_trans (Nat.le_of_eq (hz9 _).symm) h3; omega
          case rest =>
            obtain ⟨g, u, q, A, c2, xs, rfl, rfl, hx9, hg9, hp9, hc1, hc2, hm9, hr9, hlx9, he9, hb9⟩ := hcut
            obtain ⟨Au9, cu9, rfl⟩ := hp9.1.1.form
            obtain ⟨Aq9, cq9, rfl⟩ := hp9.1.2.form
            unfold cS at hx9
            dsimp only at hx9
            have hxl : xs.length ≤ 2 := by have h3 := HEL.out; have h4 := congrArg List.length hm9; rw [List.length_map] at h4; dsimp only at h4; omega
            have x0 := hx9.cell 0 _ rfl
            have x1 := hx9.cell 1 _ rfl
            have x2 := hx9.cell 2 _ rfl
            have x3 := hx9.cell 3 _ rfl
            have x4 := hx9.cell 4 _ rfl
            have x5 := hx9.cell 5 _ rfl
            have x6 := hx9.cell 6 _ rfl
            have x7 := hx9.cell 7 _ rfl
            have hxb := HX8.out.keep hb9
            obtain ⟨y0, z0, y1, z1, y2, z2, y3, z3, y4, z4, y5, z5, y6, z6, y7, z7⟩ := cf8 hxb
            have hlt1 := hxb.1
            have gs := grown_set8 wc w.heap.size (.int .i64 st9) (.slice Au9 utf9.length cu9) (.int .u8 (pr9.toNat : Int)) (.int .u8 (fi9.toNat : Int)) (.slice Aq9 pp9.length cq9) (.string it9) (.string tx9) (.bool bad9)
            have hx11 := box_set8 (.int .i64 st9) (.slice Au9 utf9.length cu9) (.int .u8 (pr9.toNat : Int)) (.int .u8 (fi9.toNat : Int)) (.slice Aq9 pp9.length cq9) (.string it9) (.string tx9) (.bool bad9) hxb
            have hz11 := HZ8.out.keep hb9
            have hv11 := HV8.out.keep hb9
            have HP9 := Lib.hid hp9
            have HM9 := Lib.hid hm9
            have HR9 := Lib.hid hr9
            have HL9 := Lib.hid hlx9
            have HE9 := Lib.hid he9
            have HB9 := Lib.hid hb9
            have HZ11 := Lib.hid hz11
            have HV11 := Lib.hid hv11
            have GS := Lib.hid gs
            have HX11 := Lib.hid hx11
            clear hx9 hxb gs hx11 hp9 hm9 hr9 hlx9 he9 hb9 hz11 hv11
            go_upto_region 11 with fail
            generalize ((((((((wc.setCell ⟨w.heap.size, 0, none⟩ (.int .i64 st9)).setCell ⟨w.heap.size, 1, none⟩ (.slice Au9 utf9.length cu9)).setCell ⟨w.heap.size, 2, none⟩ (.int .u8 (pr9.toNat : Int))).setCell ⟨w.heap.size, 3, none⟩ (.int .u8 (fi9.toNat : Int))).setCell ⟨w.heap.size, 4, none⟩ (.slice Aq9 pp9.length cq9)).setCell ⟨w.heap.size, 5, none⟩ (.string it9)).setCell ⟨w.heap.size, 6, none⟩ (.string tx9)).setCell ⟨w.heap.size, 7, none⟩ (.bool bad9)) = W8 at GS HX11 ⊢
            clear x0 y0 z0 x1 y1 z1 x2 y2 z2 x3 y3 z3 x4 y4 z4 x5 y5 z5 x6 y6 z6 x7 y7 z7
            have hsz8 := GS.out.size
            have hv8b := OwnV.at (w' := W8) HV11.out (fun kk _ h1 h2 => GS.out.block kk h2 (by intro e; injection e with e; omega))
            have hr9b := RdE.on hsz8 (fun kk hk => GS.out.block kk hk.2 (by intro e; injection e with e; have := hk.1.2.1; omega)) HR9.out rfl HL9.out
            have hyl := HYL.out
            have hW8 : w.heap.size + 2 ≤ W8.heap.size := by have := HZ11.out.1; omega
            have HV8B := Lib.hid hv8b
            have HR9B := Lib.hid hr9b
            clear hv8b hr9b
            go_upto_region 8 with (at_builtin; refine wpList_appV2 W8 rfl (.tmp 35) (.tmp 36) rfl (w.heap.size + 2) u7 ys rfl HV8B.out A xs.length c2 xs rfl rfl HR9B.out (by omega) hW8 ?_; intro v' w11 hv12 hn12 hg12; have HV12 := Lib.hid hv12; have HN12 := Lib.hid hn12; have HG12 := Lib.hid hg12; clear hv12 hn12 hg12)
            go_wp2_with fail
            go_roundw
            case rel =>
              refine ⟨k + 1, by omega, by go_num, ?_⟩
              rw [HRS.out]
              have hg := HG12.out
              have gs := GS.out
              have hblk : ∀ kk, kk < wc.heap.size → kk ≠ w.heap.size → some kk ≠ u7.ownBlock → w11.heap[kk]? = wc.heap[kk]? := fun kk h1 h2 h3 => (hg.block kk (Nat.lt_of_lt_of_le h1 hsz8) h3).trans (gs.block kk h1 (by intro e; injection e with e; exact h2 e))
              have hsw : wc.heap.size ≤ w11.heap.size := Nat.le_trans hsz8 hg.size
              have hnew : ∀ kk, kk < wc.heap.size → some kk ≠ u7.ownBlock → some kk ≠ v'.ownBlock := fun kk h1 h2 => by
                rcases HN12.out with e | e
                · rw [e]; exact h2
                · rw [e]; intro e2; injection e2 with e2; omega
              have hrow : ∀ b, b < w.heap.size + 2 → u7.ownBlock ≠ some b := fun b hb e => by have := (HV8.out.blk b e).1; omega
              refine ⟨_, _, ys ++ xs, HX11.out.grown hg ?_, (HZ11.out.grown gs ?_).grown hg ?_, HV12.out, by rw [List.map_append, HL8.out, HM9.out], ?_, ?_, ((up HB8.out HB9.out).grown gs ?_ ?_).grown hg ?_ ?_⟩
              · exact fun e => hrow _ (by omega) e.symm
              · intro e; injection e with e; omega
              · exact fun e => hrow _ (by omega) e.symm
              · exact PX.on hsw (fun kk hk => hblk kk hk.2 hk.1.2.1 hk.1.2.2.2) HP9.out (fun kk hk => ⟨hk.1.1, hk.1.2.1, hk.1.2.2.1, hnew kk hk.2 hk.1.2.2.2⟩)
              · have hwr := HB9.out.size
                intro x hx
                rcases List.mem_append.1 hx with hx | hx
                · exact EX.on (Nat.le_trans hwr hsw) (fun kk hk => (hblk kk (Nat.lt_of_lt_of_le hk.2 hwr) hk.1.2.1 hk.1.2.2.2).trans (HB9.out.block kk hk.2)) HE8.out.below (fun kk hk => ⟨hk.1.1, hk.1.2.1, hk.1.2.2.1, hnew kk (Nat.lt_of_lt_of_le hk.2 hwr) hk.1.2.2.2⟩) x hx
                · exact EX.on hsw (fun kk hk => hblk kk hk.2 hk.1.2.1 hk.1.2.2.2) HE9.out (fun kk hk => ⟨hk.1.1, hk.1.2.1, hk.1.2.2.1, hnew kk hk.2 hk.1.2.2.2⟩) x hx
              · omega
              · intro kk e; injection e with e; omega
              · omega
              · intro kk e; have := (HV8.out.blk kk e).1; omega
            case measure => simp [intOf]; omega
        · rw [List.take_of_length_le (by rw [← HNB.out]; omega)] at *
          clear hmay hlen htk
          generalize runS (p, []) bs = r at *
          obtain ⟨Au8, cu8, rfl⟩ := hp8.1.1.form
          obtain ⟨Aq8, cq8, rfl⟩ := hp8.1.2.form
          obtain ⟨Av, cv, rfl, -, -⟩ := hv8.form
          unfold cS at hx8
          dsimp only at hx8
          obtain ⟨z0, v0, z1, v1, z2, v2, z3, v3, z4, v4, z5, v5, z6, v6, z7, v7⟩ := cf8 hz8
          have y0 := hx8.cell 0 _ rfl
          have y1 := hx8.cell 1 _ rfl
          have y2 := hx8.cell 2 _ rfl
          have y3 := hx8.cell 3 _ rfl
          have y4 := hx8.cell 4 _ rfl
          have y5 := hx8.cell 5 _ rfl
          have y6 := hx8.cell 6 _ rfl
          have y7 := hx8.cell 7 _ rfl
          have hle := hz8.1
          have HZ5 := Lib.hid hz8
          have HX8 := Lib.hid hx8
          have HL8 := Lib.hid hl8
          have HV8 := Lib.hid hv8
          have HP8 := Lib.hid hp8
          have HE8 := Lib.hid he8
          have HB8 := Lib.hid hb8
          clear hx8 hz8 hl8 hv8 hp8 he8 hb8
          go_wp2_with fail
          have gs := grown_set8 wr (w.heap.size + 1) (.int .i64 r.1.st) (.slice Au8 r.1.utf.length cu8) (.int .u8 (r.1.pr.toNat : Int)) (.int .u8 (r.1.fi.toNat : Int)) (.slice Aq8 r.1.ps.length cq8) (.string r.1.it) (.string r.1.tx) (.bool r.1.bad)
          have hbx := box_set8 (.int .i64 r.1.st) (.slice Au8 r.1.utf.length cu8) (.int .u8 (r.1.pr.toNat : Int)) (.int .u8 (r.1.fi.toNat : Int)) (.slice Aq8 r.1.ps.length cq8) (.string r.1.it) (.string r.1.tx) (.bool r.1.bad) HZ5.out
          generalize ((((((((wr.setCell ⟨w.heap.size + 1, 0, none⟩ (.int .i64 r.1.st)).setCell ⟨w.heap.size + 1, 1, none⟩ (.slice Au8 r.1.utf.length cu8)).setCell ⟨w.heap.size + 1, 2, none⟩ (.int .u8 (r.1.pr.toNat : Int))).setCell ⟨w.heap.size + 1, 3, none⟩ (.int .u8 (r.1.fi.toNat : Int))).setCell ⟨w.heap.size + 1, 4, none⟩ (.slice Aq8 r.1.ps.length cq8)).setCell ⟨w.heap.size + 1, 5, none⟩ (.string r.1.it)).setCell ⟨w.heap.size + 1, 6, none⟩ (.string r.1.tx)).setCell ⟨w.heap.size + 1, 7, none⟩ (.bool r.1.bad)) = W5 at gs hbx ⊢
          have hfr := gs.size
          refine bodyPost_ret (ret_cell3 rfl _ _ ⟨w.heap.size + 1, 0, none⟩ _ rfl (load_par8 _ _ _ _ _ _ _ _ _ _ hbx)) rfl ?_
          refine ⟨.slice Au8 r.1.utf.length cu8, .slice Aq8 r.1.ps.length cq8, .slice Av ys.length cv, ys, rfl, ?_, ?_, HL8.out, ?_, ?_⟩
          · exact PX.on hfr (fun kk hk => gs.block kk hk.2 (by intro e; injection e with e; exact hk.1.2.2.1 e)) HP8.out.below (fun kk hk => hk.1.1)
          · exact (OwnV.at HV8.out (fun kk _ h1 h2 => gs.block kk h2 (by intro e; injection e with e; omega))).mono (by omega)
          · exact EX.on hfr (fun kk hk => gs.block kk hk.2 (by intro e; injection e with e; exact hk.1.2.2.1 e)) HE8.out.below (fun kk hk => hk.1.1)
          · exact HB8.out.grown gs (by omega) (fun kk hk => by cases hk; omega)
end Go.Proofs.YtmboekpomjgnnaaGreatDoor.Sta

namespace Go.Proofs.YtmboekpomjgnnaaGreatDoor.Sta
open Go.RowKit Utf Par

set_option maxRecDepth 100000 in
set_option maxHeartbeats 8000000 in
theorem some6_any (A : Option Addr) (nb cb : Nat) (bs : List UInt8) (w : World) (hbs : Rd w A (cB bs)) (hnb : nb = bs.length) (hb6 : nb ≤ 1000000) :
    Calls Tryz.prog 7 #[.slice A nb cb] w fun e w' => ∃ u q, e = .returned (.agg (cS (fedS (begS 0) bs).1 u q)) ∧ RS w' u q (fedS (begS 0) bs).1 ∧ Below w.heap.size w w' := by
  have hb1 := below_box w (.cells #[.int .i64 0, .slice none 0 0, .int .u8 0, .int .u8 0, .slice none 0 0, .string ⟨#[]⟩, .string ⟨#[]⟩, .bool false] 25)
  have hz1 := Box.new w #[.int .i64 0, .slice none 0 0, .int .u8 0, .int .u8 0, .slice none 0 0, .string ⟨#[]⟩, .string ⟨#[]⟩, .bool false] 25
  have hF : Calls Tryz.prog 19 #[.agg #[.int .i64 0, .slice none 0 0, .int .u8 0, .int .u8 0, .slice none 0 0, .string ⟨#[]⟩, .string ⟨#[]⟩, .bool false], .slice A nb cb] (w.alloc (.cells #[.int .i64 0, .slice none 0 0, .int .u8 0, .int .u8 0, .slice none 0 0, .string ⟨#[]⟩, .string ⟨#[]⟩, .bool false] 25)) (FedPost (fun k => k ≠ w.heap.size) (fedS (begS 0) bs) (w.alloc (.cells #[.int .i64 0, .slice none 0 0, .int .u8 0, .int .u8 0, .slice none 0 0, .string ⟨#[]⟩, .string ⟨#[]⟩, .bool false] 25))) := rfeed_any (fun k => k ≠ w.heap.size) (begS 0) none none A 0 0 0 0 nb cb bs (w.alloc (.cells #[.int .i64 0, .slice none 0 0, .int .u8 0, .int .u8 0, .slice none 0 0, .string ⟨#[]⟩, .string ⟨#[]⟩, .bool false] 25)) (PX.nil _ _ _ rfl rfl) (fun k hk => by rw [World.size_alloc] at hk; omega) rfl rfl ⟨Nat.zero_le _, Nat.zero_le _, Nat.zero_le _, Nat.zero_le _⟩ (hbs.below hb1) hnb hb6
  have HB1 := Lib.hid hb1
  have HZ1 := Lib.hid hz1
  have HF := Lib.hid hF
  clear hF hb1 hz1 hbs hnb
  generalize fedS (begS 0) bs = r at *
  obtain ⟨⟨gst, gutf, gpr, gfi, gps, git, gtx, gbad⟩, gl, ge⟩ := r
  go_enter Tryz.func7, Tryz.ntmps7
  go_wp2_with (go_at_call 19; refine HF.out.mono ?_; rintro e w3 ⟨u, q, v, xs, he0, hp, hv, hm, he, hb3⟩; obtain ⟨A7, c7, rfl⟩ := hp.1.1.form; obtain ⟨A8, c8, rfl⟩ := hp.1.2.form; obtain ⟨Av, cv, rfl, -, -⟩ := hv.form; have he1 : e = .returned (.tuple #[.agg #[.int .i64 gst, .slice A7 gutf.length c7, .int .u8 (gpr.toNat : Int), .int .u8 (gfi.toNat : Int), .slice A8 gps.length c8, .string git, .string gtx, .bool gbad], .slice Av xs.length cv, .int .i64 ge]) := he0; clear he0; subst he1; have hz3 := HZ1.out.keep hb3; obtain ⟨z0, v0, z1, v1, z2, v2, z3, v3, z4, v4, z5, v5, z6, v6, z7, v7⟩ := cf8 hz3; have HZ3 := Lib.hid hz3; have l3 : w.heap.size < w3.heap.size := hz3.1; have HP3 := Lib.hid hp; have HB3 := Lib.hid (up HB1.out hb3); clear hz3 hb3 hp hv hm he)
  have hbx := box_set8 (.int .i64 gst) (.slice A7 gutf.length c7) (.int .u8 (gpr.toNat : Int)) (.int .u8 (gfi.toNat : Int)) (.slice A8 gps.length c8) (.string git) (.string gtx) (.bool gbad) HZ3.out
  have gs := grown_set8 w3 w.heap.size (.int .i64 gst) (.slice A7 gutf.length c7) (.int .u8 (gpr.toNat : Int)) (.int .u8 (gfi.toNat : Int)) (.slice A8 gps.length c8) (.string git) (.string gtx) (.bool gbad)
  generalize ((((((((w3.setCell ⟨w.heap.size, 0, none⟩ (.int .i64 gst)).setCell ⟨w.heap.size, 1, none⟩ (.slice A7 gutf.length c7)).setCell ⟨w.heap.size, 2, none⟩ (.int .u8 (gpr.toNat : Int))).setCell ⟨w.heap.size, 3, none⟩ (.int .u8 (gfi.toNat : Int))).setCell ⟨w.heap.size, 4, none⟩ (.slice A8 gps.length c8)).setCell ⟨w.heap.size, 5, none⟩ (.string git)).setCell ⟨w.heap.size, 6, none⟩ (.string gtx)).setCell ⟨w.heap.size, 7, none⟩ (.bool gbad)) = W1 at hbx gs ⊢
  have hbw : Below w.heap.size w W1 := HB3.out.grown gs HB3.out.size (fun k hk => by cases hk; exact Nat.le_refl _)
  have hp1 := PX.on (Y := fun _ => True) gs.size (fun k hk => gs.block k hk.2 (by intro e; injection e with e; exact hk.1 e)) HP3.out.below (fun _ _ => trivial)
  refine bodyPost_ret (ret_cell1 rfl _ _ ⟨w.heap.size, 0, none⟩ _ rfl (load_par8 _ _ _ _ _ _ _ _ _ _ (hbx.alloc _))) rfl ?_
  exact ⟨_, _, rfl, hp1.1.keep (below_box _ _), up hbw (below_box _ _)⟩
theorem fed_one (p : PS) (b : UInt8) : fedS p [b] = stpS p b := by
  unfold fedS stpS
  cases mayS p with
  | false => rfl
  | true =>
    rw [if_pos rfl, if_pos rfl, if_neg (by show ¬ 4096 < 1; decide)]
    rfl
set_option maxRecDepth 100000 in
set_option maxHeartbeats 8000000 in
theorem step6_all (p : PS) (b : UInt8) (au aq : Option Addr) (nu cu nq cq : Nat) (w : World) (hr : RS w (.slice au nu cu) (.slice aq nq cq) p) (hm : Mk w) (ht : Tf w)
    (s1 : p.utf.length ≤ 1000000) (s2 : Kq p.ps) (s3 : p.it.size ≤ 1000000) (s4 : p.tx.size ≤ 1000000) :
    Calls Tryz.prog 15 #[.agg (cS p (.slice au nu cu) (.slice aq nq cq)), .int .u8 (b.toNat : Int)] w (StpPost (stpS p b) w) := by
  have hx2 : Below w.heap.size w ((w.alloc (.cells #[.int .i64 p.st, .slice au nu cu, .int .u8 (p.pr.toNat : Int), .int .u8 (p.fi.toNat : Int), .slice aq nq cq, .string p.it, .string p.tx, .bool p.bad] 25)).alloc (.cells #[.int .i64 0, .slice none 0 0, .int .u8 0, .int .u8 0, .slice none 0 0, .string ⟨#[]⟩, .string ⟨#[]⟩, .bool false] 25)) := up (below_box _ _) (below_box _ _)
  have hp2 := (Box.new w #[.int .i64 p.st, .slice au nu cu, .int .u8 (p.pr.toNat : Int), .int .u8 (p.fi.toNat : Int), .slice aq nq cq, .string p.it, .string p.tx, .bool p.bad] 25).alloc (.cells #[.int .i64 0, .slice none 0 0, .int .u8 0, .int .u8 0, .slice none 0 0, .string ⟨#[]⟩, .string ⟨#[]⟩, .bool false] 25)
  have hz2 := Box.new (w.alloc (.cells #[.int .i64 p.st, .slice au nu cu, .int .u8 (p.pr.toNat : Int), .int .u8 (p.fi.toNat : Int), .slice aq nq cq, .string p.it, .string p.tx, .bool p.bad] 25)) #[.int .i64 0, .slice none 0 0, .int .u8 0, .int .u8 0, .slice none 0 0, .string ⟨#[]⟩, .string ⟨#[]⟩, .bool false] 25
  rw [World.size_alloc] at hz2
  have HX2 := Lib.hid hx2
  have HP2 := Lib.hid hp2
  have HZ2 := Lib.hid hz2
  have hs2 : ((w.alloc (.cells #[.int .i64 p.st, .slice au nu cu, .int .u8 (p.pr.toNat : Int), .int .u8 (p.fi.toNat : Int), .slice aq nq cq, .string p.it, .string p.tx, .bool p.bad] 25)).alloc (.cells #[.int .i64 0, .slice none 0 0, .int .u8 0, .int .u8 0, .slice none 0 0, .string ⟨#[]⟩, .string ⟨#[]⟩, .bool false] 25)).heap.size = w.heap.size + 1 + 1 := by rw [World.size_alloc, World.size_alloc]
  have HS2 := Lib.hid hs2
  have HR := Lib.hid hr
  have HM := Lib.hid hm
  have HT := Lib.hid ht
  have hpx : PX (fun k => k ≠ w.heap.size + 1) w (.slice au nu cu) (.slice aq nq cq) p := PX.on (Nat.le_refl _) (fun _ _ => rfl) (RS.lt hr) (fun k hk => by omega)
  have HPX := Lib.hid hpx
  clear hx2 hp2 hz2 hs2 hr hm ht hpx
  have hb3 := below_box ((w.alloc (.cells #[.int .i64 p.st, .slice au nu cu, .int .u8 (p.pr.toNat : Int), .int .u8 (p.fi.toNat : Int), .slice aq nq cq, .string p.it, .string p.tx, .bool p.bad] 25)).alloc (.cells #[.int .i64 0, .slice none 0 0, .int .u8 0, .int .u8 0, .slice none 0 0, .string ⟨#[]⟩, .string ⟨#[]⟩, .bool false] 25)) (.cells #[.int .u8 (b.toNat : Int)] 5)
  have hF := feed_all (fun k => k ≠ w.heap.size + 1) p au aq (some ⟨w.heap.size + 1 + 1, 0, none⟩) nu cu nq cq 1 1 [b] (((w.alloc (.cells #[.int .i64 p.st, .slice au nu cu, .int .u8 (p.pr.toNat : Int), .int .u8 (p.fi.toNat : Int), .slice aq nq cq, .string p.it, .string p.tx, .bool p.bad] 25)).alloc (.cells #[.int .i64 0, .slice none 0 0, .int .u8 0, .int .u8 0, .slice none 0 0, .string ⟨#[]⟩, .string ⟨#[]⟩, .bool false] 25)).alloc (.cells #[.int .u8 (b.toNat : Int)] 5)) (HPX.out.keep (up HX2.out hb3))
    (fun k hk => by have := HS2.out; have := hb3.size; omega) (HM.out.keep (up HX2.out hb3)) (HT.out.keep (up HX2.out hb3)) (by rw [← HS2.out]; exact Rd.one _ (.int .u8 (b.toNat : Int)) 5) rfl (by decide) s1 s2 s3 s4
  have HF := Lib.hid hF
  have hz3 := HZ2.out.keep hb3
  have HZ3 := Lib.hid hz3
  have HB3 := Lib.hid (up HX2.out hb3)
  clear hF hz3 hb3 s1 s2 s3 s4
  rw [← fed_one]
  generalize fedS p [b] = r at *
  obtain ⟨⟨gst, gutf, gpr, gfi, gps, git, gtx, gbad⟩, gl, ge⟩ := r
  unfold cS at HF ⊢
  go_enter Tryz.func15, Tryz.ntmps15
  go_wp2_with (go_at_call 18; refine HF.out.mono ?_; rintro e w6 ⟨u, q, v, xs, he0, hp, hv, hm, he, hb6⟩; obtain ⟨A7, c7, rfl⟩ := hp.1.1.form; obtain ⟨A8, c8, rfl⟩ := hp.1.2.form; obtain ⟨Av, cv, rfl, -, -⟩ := hv.form; have he1 : e = .returned (.tuple #[.agg #[.int .i64 gst, .slice A7 gutf.length c7, .int .u8 (gpr.toNat : Int), .int .u8 (gfi.toNat : Int), .slice A8 gps.length c8, .string git, .string gtx, .bool gbad], .slice Av xs.length cv, .int .i64 ge]) := he0; clear he0; subst he1; have hz6 := HZ3.out.keep hb6; obtain ⟨z0, v0, z1, v1, z2, v2, z3, v3, z4, v4, z5, v5, z6, v6, z7, v7⟩ := cf8 hz6; have HZ6 := Lib.hid hz6; have l6 : w.heap.size + 1 < w6.heap.size := hz6.1; have HP6 := Lib.hid hp; have HV6 := Lib.hid hv; have HM6 := Lib.hid hm; have HE6 := Lib.hid he; have HB6 := Lib.hid (up HB3.out hb6); clear hz6 hb6 hp hv hm he)
  have hbx := box_set8 (.int .i64 gst) (.slice A7 gutf.length c7) (.int .u8 (gpr.toNat : Int)) (.int .u8 (gfi.toNat : Int)) (.slice A8 gps.length c8) (.string git) (.string gtx) (.bool gbad) HZ6.out
  have gs := grown_set8 w6 (w.heap.size + 1) (.int .i64 gst) (.slice A7 gutf.length c7) (.int .u8 (gpr.toNat : Int)) (.int .u8 (gfi.toNat : Int)) (.slice A8 gps.length c8) (.string git) (.string gtx) (.bool gbad)
  generalize ((((((((w6.setCell ⟨w.heap.size + 1, 0, none⟩ (.int .i64 gst)).setCell ⟨w.heap.size + 1, 1, none⟩ (.slice A7 gutf.length c7)).setCell ⟨w.heap.size + 1, 2, none⟩ (.int .u8 (gpr.toNat : Int))).setCell ⟨w.heap.size + 1, 3, none⟩ (.int .u8 (gfi.toNat : Int))).setCell ⟨w.heap.size + 1, 4, none⟩ (.slice A8 gps.length c8)).setCell ⟨w.heap.size + 1, 5, none⟩ (.string git)).setCell ⟨w.heap.size + 1, 6, none⟩ (.string gtx)).setCell ⟨w.heap.size + 1, 7, none⟩ (.bool gbad)) = W1 at hbx gs ⊢
  have hbw : Below w.heap.size w W1 := HB6.out.grown gs HB6.out.size (fun k hk => by cases hk; exact Nat.le_succ _)
  have hp1 := PX.on (Y := fun _ => True) gs.size (fun k hk => gs.block k hk.2 (by intro e; injection e with e; exact hk.1 e)) HP6.out.below (fun _ _ => trivial)
  have he1 := EX.on (Y := fun _ => True) gs.size (fun k hk => gs.block k hk.2 (by intro e; injection e with e; exact hk.1 e)) HE6.out.below (fun _ _ => trivial)
  have hv1 := OwnV.at HV6.out (fun kk _ h1 h2 => gs.block kk h2 (by intro e; injection e with e; rw [World.size_alloc, HS2.out] at h1; omega))
  have hrv := hv1.rv (fun x hx => (he1 x hx).1)
  rw [HM6.out] at hrv
  refine bodyPost_ret (ret_cell3 rfl _ _ ⟨w.heap.size + 1, 0, none⟩ _ rfl (load_par8 _ _ _ _ _ _ _ _ _ _ hbx)) rfl ?_
  exact ⟨_, _, _, rfl, hp1.1, hrv, hbw⟩
end Go.Proofs.YtmboekpomjgnnaaGreatDoor.Sta
