/-
  StaNb
-/
import Derived.Test.YtmboekpomjgnnaaGreatDoorF39
import Derived.Test.YtmboekpomjgnnaaGreatDoorF40
namespace Go.Proofs.YtmboekpomjgnnaaGreatDoor.Sta
open Go.RowKit Utf Par

set_option maxRecDepth 100000 in
set_option maxHeartbeats 8000000 in
theorem one_c_0 (p : PS) (b : UInt8) (au aq : Option Addr) (nu cu nq cq : Nat) (w0 w : World) (hr : RS w0 (.slice au nu cu) (.slice aq nq cq) p) (hw : Pre w0 w) (hs : p.st = 0) (hu : p.utf = []) (hb : b.toNat ≠ 24 ∧ b.toNat ≠ 26 ∧ b.toNat ≠ 27) (k1 : b.toNat < 32) :
    Calls Tryz.prog 31 #[.agg (cS p (.slice au nu cu) (.slice aq nq cq)), .int .u8 (b.toNat : Int)] w (Ret2 (p, [ctE b.toNat]) w0 w) := by
  have HRS := Lib.hid hr
  have hnu : nu = p.utf.length := by
    obtain ⟨A9, c9, e9, -⟩ := hr.1
    cases e9
    rfl
  clear hr
  have HW0 := Lib.hid hw; clear hw
  obtain ⟨st, utf, pr, fi, pp, it, tx, bad⟩ := p
  dsimp only at *
  subst hs
  obtain rfl : nu = 0 := by rw [hnu, hu]; rfl
  clear hnu
  have hb256 : (b.toNat : Int) < 256 := by have := b.toNat_lt; omega
  have b24 : ((b.toNat : Int) == 24) = false := by simp; omega
  have b26 : ((b.toNat : Int) == 26) = false := by simp; omega
  have b27 : ((b.toNat : Int) == 27) = false := by simp; omega
  have d32 : decide ((b.toNat : Int) < 32) = true := decide_eq_true (by omega)
  have d128 : decide ((128 : Int) ≤ (b.toNat : Int)) = false := decide_eq_false (by omega)
  have HV1 := Lib.hid (show hasB 0 [7, 12, 14] = false by decide)
  have HV2 := Lib.hid (show hasB 0 [6, 11, 13] = false by decide)
  clear hu hb k1
  unfold cS
  dsimp only at *
  have HX0 := Lib.hid ((Box.new w #[.int .i64 0, .slice au 0 cu, .int .u8 (pr.toNat : Int), .int .u8 (fi.toNat : Int), .slice aq nq cq, .string it, .string tx, .bool bad] 25).alloc (.cells #[.int .i64 0, .slice none 0 0, .int .u8 0, .int .u8 0, .slice none 0 0, .string ⟨#[]⟩, .string ⟨#[]⟩, .bool false] 25))
  have hx1 := Box.new (w.alloc (.cells #[.int .i64 0, .slice au 0 cu, .int .u8 (pr.toNat : Int), .int .u8 (fi.toNat : Int), .slice aq nq cq, .string it, .string tx, .bool bad] 25)) #[.int .i64 0, .slice none 0 0, .int .u8 0, .int .u8 0, .slice none 0 0, .string ⟨#[]⟩, .string ⟨#[]⟩, .bool false] 25
  rw [World.size_alloc] at hx1
  have HX1 := Lib.hid hx1
  have HB1 := Lib.hid (show Below w.heap.size w ((w.alloc (.cells #[.int .i64 0, .slice au 0 cu, .int .u8 (pr.toNat : Int), .int .u8 (fi.toNat : Int), .slice aq nq cq, .string it, .string tx, .bool bad] 25)).alloc (.cells #[.int .i64 0, .slice none 0 0, .int .u8 0, .int .u8 0, .slice none 0 0, .string ⟨#[]⟩, .string ⟨#[]⟩, .bool false] 25)) from up (below_box _ _) (below_box _ _))
  clear hx1
  have a0 := HX0.out.cell 0 _ rfl
  have a1 := HX0.out.cell 1 _ rfl
  have a2 := HX0.out.cell 2 _ rfl
  have a3 := HX0.out.cell 3 _ rfl
  have a4 := HX0.out.cell 4 _ rfl
  have a5 := HX0.out.cell 5 _ rfl
  have a6 := HX0.out.cell 6 _ rfl
  have a7 := HX0.out.cell 7 _ rfl
  have g0 := HX0.out.free 0 (by show 0 < 8; decide)
  obtain ⟨z0, y0, z1, y1, z2, y2, z3, y3, z4, y4, z5, y5, z6, y6, z7, y7⟩ := cf8 HX1.out
  have l0 := HX0.out.1
  have l1 := HX1.out.1
  go_enter Tryz.func31, Tryz.ntmps31
  go_wp2_with (first
    | (go_at_call 43; refine (has_any _ _ 3 _ [6, 11, 13] _ rfl (rd_at _ _ [6, 11, 13] _ _ rfl (by simp)) (by decide)).mono ?_; rw [HV2.out]; rintro e wn ⟨rfl, hbn⟩; have hk := up (below_box _ _) hbn; have hx0 := HX0.out.keep hk; have hx1 := HX1.out.keep hk; have hbb := up HB1.out hk; clear HX0 HX1 HB1; have HX0 := Lib.hid hx0; have HX1 := Lib.hid hx1; have HB1 := Lib.hid hbb; clear hx0 hx1 hbb hk hbn; clear a0 z0 y0 a1 z1 y1 a2 z2 y2 a3 z3 y3 a4 z4 y4 a5 z5 y5 a6 z6 y6 a7 z7 y7 g0 l0 l1; have a0 := HX0.out.cell 0 _ rfl; have a1 := HX0.out.cell 1 _ rfl; have a2 := HX0.out.cell 2 _ rfl; have a3 := HX0.out.cell 3 _ rfl; have a4 := HX0.out.cell 4 _ rfl; have a5 := HX0.out.cell 5 _ rfl; have a6 := HX0.out.cell 6 _ rfl; have a7 := HX0.out.cell 7 _ rfl; have g0 := HX0.out.free 0 (by show 0 < 8; decide); obtain ⟨z0, y0, z1, y1, z2, y2, z3, y3, z4, y4, z5, y5, z6, y6, z7, y7⟩ := cf8 HX1.out; have l0 := HX0.out.1; have l1 := HX1.out.1)
    | (go_at_call 43; refine (has_any _ _ 3 _ [7, 12, 14] _ rfl (rd_at _ _ [7, 12, 14] _ _ rfl (by simp)) (by decide)).mono ?_; rw [HV1.out]; rintro e wn ⟨rfl, hbn⟩; have hk := up (below_box _ _) hbn; have hx0 := HX0.out.keep hk; have hx1 := HX1.out.keep hk; have hbb := up HB1.out hk; clear HX0 HX1 HB1; have HX0 := Lib.hid hx0; have HX1 := Lib.hid hx1; have HB1 := Lib.hid hbb; clear hx0 hx1 hbb hk hbn; clear a0 z0 y0 a1 z1 y1 a2 z2 y2 a3 z3 y3 a4 z4 y4 a5 z5 y5 a6 z6 y6 a7 z7 y7 g0 l0 l1; have a0 := HX0.out.cell 0 _ rfl; have a1 := HX0.out.cell 1 _ rfl; have a2 := HX0.out.cell 2 _ rfl; have a3 := HX0.out.cell 3 _ rfl; have a4 := HX0.out.cell 4 _ rfl; have a5 := HX0.out.cell 5 _ rfl; have a6 := HX0.out.cell 6 _ rfl; have a7 := HX0.out.cell 7 _ rfl; have g0 := HX0.out.free 0 (by show 0 < 8; decide); obtain ⟨z0, y0, z1, y1, z2, y2, z3, y3, z4, y4, z5, y5, z6, y6, z7, y7⟩ := cf8 HX1.out; have l0 := HX0.out.1; have l1 := HX1.out.1))
  have hl9 := HX1.out.1
  have hbx := box_set8 (.int .i64 0) (.slice au 0 cu) (.int .u8 (pr.toNat : Int)) (.int .u8 (fi.toNat : Int)) (.slice aq nq cq) (.string it) (.string tx) (.bool bad) HX1.out
  have hbl := below_set8 (w.heap.size + 1) (.int .i64 0) (.slice au 0 cu) (.int .u8 (pr.toNat : Int)) (.int .u8 (fi.toNat : Int)) (.slice aq nq cq) (.string it) (.string tx) (.bool bad) HB1.out (by omega)
  have hsz := size_set8 wn (w.heap.size + 1) (.int .i64 0) (.slice au 0 cu) (.int .u8 (pr.toNat : Int)) (.int .u8 (fi.toNat : Int)) (.slice aq nq cq) (.string it) (.string tx) (.bool bad)
  generalize (World.setCell (World.setCell (World.setCell (World.setCell (World.setCell (World.setCell (World.setCell (World.setCell wn _ _) _ _) _ _) _ _) _ _) _ _) _ _) _ _) = W8 at hbx hbl hsz ⊢
  have hev := RdE.one W8 ⟨ctE b.toNat, none, 0, 0⟩ 27
  rw [hsz] at hev
  refine bodyPost_ret (ret_cell rfl _ _ ⟨w.heap.size + 1, 0, none⟩ _ rfl (load_par8 _ _ _ _ _ _ _ _ _ _ (hbx.alloc _))) rfl ?_
  exact ⟨_, _, _, rfl, fun W hW => ⟨HRS.out.keepP hW.1, RV.mk1 (hev.at (by simp; omega) (hW.2 _ (by omega) (by simp; omega))) (RL.nil _)⟩, up hbl (below_box _ _)⟩
set_option maxRecDepth 100000 in
set_option maxHeartbeats 8000000 in
theorem one_c_n (p : PS) (b : UInt8) (au aq : Option Addr) (nu cu nq cq : Nat) (w0 w : World) (hr : RS w0 (.slice au nu cu) (.slice aq nq cq) p) (hw : Pre w0 w) (hs : p.st ≠ 0) (hv1 : hasB p.st [7, 12, 14] = false) (hv2 : hasB p.st [6, 11, 13] = false) (h5 : p.st ≤ 5) (hb : b.toNat ≠ 24 ∧ b.toNat ≠ 26 ∧ b.toNat ≠ 27) (k1 : b.toNat < 32) :
    Calls Tryz.prog 31 #[.agg (cS p (.slice au nu cu) (.slice aq nq cq)), .int .u8 (b.toNat : Int)] w (Ret2 (p, [ctE b.toNat]) w0 w) := by
  have HRS := Lib.hid hr
  have hnu : nu = p.utf.length := by
    obtain ⟨A9, c9, e9, -⟩ := hr.1
    cases e9
    rfl
  clear hr
  have HW0 := Lib.hid hw; clear hw
  obtain ⟨st, utf, pr, fi, pp, it, tx, bad⟩ := p
  dsimp only at *
  have c0 : (st == 0) = false := by simp; omega
  have d5 : decide (st ≤ 5) = true := decide_eq_true h5
  clear hnu hs
  have hb256 : (b.toNat : Int) < 256 := by have := b.toNat_lt; omega
  have b24 : ((b.toNat : Int) == 24) = false := by simp; omega
  have b26 : ((b.toNat : Int) == 26) = false := by simp; omega
  have b27 : ((b.toNat : Int) == 27) = false := by simp; omega
  have d32 : decide ((b.toNat : Int) < 32) = true := decide_eq_true (by omega)
  have d128 : decide ((128 : Int) ≤ (b.toNat : Int)) = false := decide_eq_false (by omega)
  have HV1 := Lib.hid hv1
  have HV2 := Lib.hid hv2
  clear hv1 hv2
  clear h5 hb k1
  unfold cS
  dsimp only at *
  have HX0 := Lib.hid ((Box.new w #[.int .i64 st, .slice au nu cu, .int .u8 (pr.toNat : Int), .int .u8 (fi.toNat : Int), .slice aq nq cq, .string it, .string tx, .bool bad] 25).alloc (.cells #[.int .i64 0, .slice none 0 0, .int .u8 0, .int .u8 0, .slice none 0 0, .string ⟨#[]⟩, .string ⟨#[]⟩, .bool false] 25))
  have hx1 := Box.new (w.alloc (.cells #[.int .i64 st, .slice au nu cu, .int .u8 (pr.toNat : Int), .int .u8 (fi.toNat : Int), .slice aq nq cq, .string it, .string tx, .bool bad] 25)) #[.int .i64 0, .slice none 0 0, .int .u8 0, .int .u8 0, .slice none 0 0, .string ⟨#[]⟩, .string ⟨#[]⟩, .bool false] 25
  rw [World.size_alloc] at hx1
  have HX1 := Lib.hid hx1
  have HB1 := Lib.hid (show Below w.heap.size w ((w.alloc (.cells #[.int .i64 st, .slice au nu cu, .int .u8 (pr.toNat : Int), .int .u8 (fi.toNat : Int), .slice aq nq cq, .string it, .string tx, .bool bad] 25)).alloc (.cells #[.int .i64 0, .slice none 0 0, .int .u8 0, .int .u8 0, .slice none 0 0, .string ⟨#[]⟩, .string ⟨#[]⟩, .bool false] 25)) from up (below_box _ _) (below_box _ _))
  clear hx1
  have a0 := HX0.out.cell 0 _ rfl
  have a1 := HX0.out.cell 1 _ rfl
  have a2 := HX0.out.cell 2 _ rfl
  have a3 := HX0.out.cell 3 _ rfl
  have a4 := HX0.out.cell 4 _ rfl
  have a5 := HX0.out.cell 5 _ rfl
  have a6 := HX0.out.cell 6 _ rfl
  have a7 := HX0.out.cell 7 _ rfl
  have g0 := HX0.out.free 0 (by show 0 < 8; decide)
  obtain ⟨z0, y0, z1, y1, z2, y2, z3, y3, z4, y4, z5, y5, z6, y6, z7, y7⟩ := cf8 HX1.out
  have l0 := HX0.out.1
  have l1 := HX1.out.1
  go_enter Tryz.func31, Tryz.ntmps31
  go_wp2_with (first
    | (go_at_call 43; refine (has_any _ _ 3 _ [6, 11, 13] _ rfl (rd_at _ _ [6, 11, 13] _ _ rfl (by simp)) (by decide)).mono ?_; rw [HV2.out]; rintro e wn ⟨rfl, hbn⟩; have hk := up (below_box _ _) hbn; have hx0 := HX0.out.keep hk; have hx1 := HX1.out.keep hk; have hbb := up HB1.out hk; clear HX0 HX1 HB1; have HX0 := Lib.hid hx0; have HX1 := Lib.hid hx1; have HB1 := Lib.hid hbb; clear hx0 hx1 hbb hk hbn; clear a0 z0 y0 a1 z1 y1 a2 z2 y2 a3 z3 y3 a4 z4 y4 a5 z5 y5 a6 z6 y6 a7 z7 y7 g0 l0 l1; have a0 := HX0.out.cell 0 _ rfl; have a1 := HX0.out.cell 1 _ rfl; have a2 := HX0.out.cell 2 _ rfl; have a3 := HX0.out.cell 3 _ rfl; have a4 := HX0.out.cell 4 _ rfl; have a5 := HX0.out.cell 5 _ rfl; have a6 := HX0.out.cell 6 _ rfl; have a7 := HX0.out.cell 7 _ rfl; have g0 := HX0.out.free 0 (by show 0 < 8; decide); obtain ⟨z0, y0, z1, y1, z2, y2, z3, y3, z4, y4, z5, y5, z6, y6, z7, y7⟩ := cf8 HX1.out; have l0 := HX0.out.1; have l1 := HX1.out.1)
    | (go_at_call 43; refine (has_any _ _ 3 _ [7, 12, 14] _ rfl (rd_at _ _ [7, 12, 14] _ _ rfl (by simp)) (by decide)).mono ?_; rw [HV1.out]; rintro e wn ⟨rfl, hbn⟩; have hk := up (below_box _ _) hbn; have hx0 := HX0.out.keep hk; have hx1 := HX1.out.keep hk; have hbb := up HB1.out hk; clear HX0 HX1 HB1; have HX0 := Lib.hid hx0; have HX1 := Lib.hid hx1; have HB1 := Lib.hid hbb; clear hx0 hx1 hbb hk hbn; clear a0 z0 y0 a1 z1 y1 a2 z2 y2 a3 z3 y3 a4 z4 y4 a5 z5 y5 a6 z6 y6 a7 z7 y7 g0 l0 l1; have a0 := HX0.out.cell 0 _ rfl; have a1 := HX0.out.cell 1 _ rfl; have a2 := HX0.out.cell 2 _ rfl; have a3 := HX0.out.cell 3 _ rfl; have a4 := HX0.out.cell 4 _ rfl; have a5 := HX0.out.cell 5 _ rfl; have a6 := HX0.out.cell 6 _ rfl; have a7 := HX0.out.cell 7 _ rfl; have g0 := HX0.out.free 0 (by show 0 < 8; decide); obtain ⟨z0, y0, z1, y1, z2, y2, z3, y3, z4, y4, z5, y5, z6, y6, z7, y7⟩ := cf8 HX1.out; have l0 := HX0.out.1; have l1 := HX1.out.1))
  have hl9 := HX1.out.1
  have hbx := box_set8 (.int .i64 st) (.slice au nu cu) (.int .u8 (pr.toNat : Int)) (.int .u8 (fi.toNat : Int)) (.slice aq nq cq) (.string it) (.string tx) (.bool bad) HX1.out
  have hbl := below_set8 (w.heap.size + 1) (.int .i64 st) (.slice au nu cu) (.int .u8 (pr.toNat : Int)) (.int .u8 (fi.toNat : Int)) (.slice aq nq cq) (.string it) (.string tx) (.bool bad) HB1.out (by omega)
  have hsz := size_set8 wn (w.heap.size + 1) (.int .i64 st) (.slice au nu cu) (.int .u8 (pr.toNat : Int)) (.int .u8 (fi.toNat : Int)) (.slice aq nq cq) (.string it) (.string tx) (.bool bad)
  generalize (World.setCell (World.setCell (World.setCell (World.setCell (World.setCell (World.setCell (World.setCell (World.setCell wn _ _) _ _) _ _) _ _) _ _) _ _) _ _) _ _) = W8 at hbx hbl hsz ⊢
  have hev := RdE.one W8 ⟨ctE b.toNat, none, 0, 0⟩ 27
  rw [hsz] at hev
  refine bodyPost_ret (ret_cell rfl _ _ ⟨w.heap.size + 1, 0, none⟩ _ rfl (load_par8 _ _ _ _ _ _ _ _ _ _ (hbx.alloc _))) rfl ?_
  exact ⟨_, _, _, rfl, fun W hW => ⟨HRS.out.keepP hW.1, RV.mk1 (hev.at (by simp; omega) (hW.2 _ (by omega) (by simp; omega))) (RL.nil _)⟩, up hbl (below_box _ _)⟩
set_option maxRecDepth 100000 in
set_option maxHeartbeats 8000000 in
theorem one_c_h (p : PS) (b : UInt8) (au aq : Option Addr) (nu cu nq cq : Nat) (w0 w : World) (hr : RS w0 (.slice au nu cu) (.slice aq nq cq) p) (hw : Pre w0 w) (hs : p.st ≠ 0) (hv1 : hasB p.st [7, 12, 14] = false) (hv2 : hasB p.st [6, 11, 13] = false) (h5 : ¬ p.st ≤ 5) (hb : b.toNat ≠ 24 ∧ b.toNat ≠ 26 ∧ b.toNat ≠ 27) (k1 : b.toNat < 32) :
    Calls Tryz.prog 31 #[.agg (cS p (.slice au nu cu) (.slice aq nq cq)), .int .u8 (b.toNat : Int)] w (Ret2 (p, []) w0 w) := by
  have HRS := Lib.hid hr
  have hnu : nu = p.utf.length := by
    obtain ⟨A9, c9, e9, -⟩ := hr.1
    cases e9
    rfl
  clear hr
  have HW0 := Lib.hid hw; clear hw
  obtain ⟨st, utf, pr, fi, pp, it, tx, bad⟩ := p
  dsimp only at *
  have c0 : (st == 0) = false := by simp; omega
  have d5 : decide (st ≤ 5) = false := decide_eq_false h5
  clear hnu hs
  have b24 : ((b.toNat : Int) == 24) = false := by simp; omega
  have b26 : ((b.toNat : Int) == 26) = false := by simp; omega
  have b27 : ((b.toNat : Int) == 27) = false := by simp; omega
  have d32 : decide ((b.toNat : Int) < 32) = true := decide_eq_true (by omega)
  have d128 : decide ((128 : Int) ≤ (b.toNat : Int)) = false := decide_eq_false (by omega)
  have HV1 := Lib.hid hv1
  have HV2 := Lib.hid hv2
  clear hv1 hv2
  clear h5 hb k1
  unfold cS
  dsimp only at *
  have HX0 := Lib.hid ((Box.new w #[.int .i64 st, .slice au nu cu, .int .u8 (pr.toNat : Int), .int .u8 (fi.toNat : Int), .slice aq nq cq, .string it, .string tx, .bool bad] 25).alloc (.cells #[.int .i64 0, .slice none 0 0, .int .u8 0, .int .u8 0, .slice none 0 0, .string ⟨#[]⟩, .string ⟨#[]⟩, .bool false] 25))
  have hx1 := Box.new (w.alloc (.cells #[.int .i64 st, .slice au nu cu, .int .u8 (pr.toNat : Int), .int .u8 (fi.toNat : Int), .slice aq nq cq, .string it, .string tx, .bool bad] 25)) #[.int .i64 0, .slice none 0 0, .int .u8 0, .int .u8 0, .slice none 0 0, .string ⟨#[]⟩, .string ⟨#[]⟩, .bool false] 25
  rw [World.size_alloc] at hx1
  have HX1 := Lib.hid hx1
  have HB1 := Lib.hid (show Below w.heap.size w ((w.alloc (.cells #[.int .i64 st, .slice au nu cu, .int .u8 (pr.toNat : Int), .int .u8 (fi.toNat : Int), .slice aq nq cq, .string it, .string tx, .bool bad] 25)).alloc (.cells #[.int .i64 0, .slice none 0 0, .int .u8 0, .int .u8 0, .slice none 0 0, .string ⟨#[]⟩, .string ⟨#[]⟩, .bool false] 25)) from up (below_box _ _) (below_box _ _))
  clear hx1
  have a0 := HX0.out.cell 0 _ rfl
  have a1 := HX0.out.cell 1 _ rfl
  have a2 := HX0.out.cell 2 _ rfl
  have a3 := HX0.out.cell 3 _ rfl
  have a4 := HX0.out.cell 4 _ rfl
  have a5 := HX0.out.cell 5 _ rfl
  have a6 := HX0.out.cell 6 _ rfl
  have a7 := HX0.out.cell 7 _ rfl
  have g0 := HX0.out.free 0 (by show 0 < 8; decide)
  obtain ⟨z0, y0, z1, y1, z2, y2, z3, y3, z4, y4, z5, y5, z6, y6, z7, y7⟩ := cf8 HX1.out
  have l0 := HX0.out.1
  have l1 := HX1.out.1
  go_enter Tryz.func31, Tryz.ntmps31
  go_wp2_with (first
    | (go_at_call 43; refine (has_any _ _ 3 _ [6, 11, 13] _ rfl (rd_at _ _ [6, 11, 13] _ _ rfl (by simp)) (by decide)).mono ?_; rw [HV2.out]; rintro e wn ⟨rfl, hbn⟩; have hk := up (below_box _ _) hbn; have hx0 := HX0.out.keep hk; have hx1 := HX1.out.keep hk; have hbb := up HB1.out hk; clear HX0 HX1 HB1; have HX0 := Lib.hid hx0; have HX1 := Lib.hid hx1; have HB1 := Lib.hid hbb; clear hx0 hx1 hbb hk hbn; clear a0 z0 y0 a1 z1 y1 a2 z2 y2 a3 z3 y3 a4 z4 y4 a5 z5 y5 a6 z6 y6 a7 z7 y7 g0 l0 l1; have a0 := HX0.out.cell 0 _ rfl; have a1 := HX0.out.cell 1 _ rfl; have a2 := HX0.out.cell 2 _ rfl; have a3 := HX0.out.cell 3 _ rfl; have a4 := HX0.out.cell 4 _ rfl; have a5 := HX0.out.cell 5 _ rfl; have a6 := HX0.out.cell 6 _ rfl; have a7 := HX0.out.cell 7 _ rfl; have g0 := HX0.out.free 0 (by show 0 < 8; decide); obtain ⟨z0, y0, z1, y1, z2, y2, z3, y3, z4, y4, z5, y5, z6, y6, z7, y7⟩ := cf8 HX1.out; have l0 := HX0.out.1; have l1 := HX1.out.1)
    | (go_at_call 43; refine (has_any _ _ 3 _ [7, 12, 14] _ rfl (rd_at _ _ [7, 12, 14] _ _ rfl (by simp)) (by decide)).mono ?_; rw [HV1.out]; rintro e wn ⟨rfl, hbn⟩; have hk := up (below_box _ _) hbn; have hx0 := HX0.out.keep hk; have hx1 := HX1.out.keep hk; have hbb := up HB1.out hk; clear HX0 HX1 HB1; have HX0 := Lib.hid hx0; have HX1 := Lib.hid hx1; have HB1 := Lib.hid hbb; clear hx0 hx1 hbb hk hbn; clear a0 z0 y0 a1 z1 y1 a2 z2 y2 a3 z3 y3 a4 z4 y4 a5 z5 y5 a6 z6 y6 a7 z7 y7 g0 l0 l1; have a0 := HX0.out.cell 0 _ rfl; have a1 := HX0.out.cell 1 _ rfl; have a2 := HX0.out.cell 2 _ rfl; have a3 := HX0.out.cell 3 _ rfl; have a4 := HX0.out.cell 4 _ rfl; have a5 := HX0.out.cell 5 _ rfl; have a6 := HX0.out.cell 6 _ rfl; have a7 := HX0.out.cell 7 _ rfl; have g0 := HX0.out.free 0 (by show 0 < 8; decide); obtain ⟨z0, y0, z1, y1, z2, y2, z3, y3, z4, y4, z5, y5, z6, y6, z7, y7⟩ := cf8 HX1.out; have l0 := HX0.out.1; have l1 := HX1.out.1))
  refine bodyPost_ret (ret_cell rfl _ _ ⟨w.heap.size + 1, 0, none⟩ _ rfl (load_par8 _ _ _ _ _ _ _ _ _ _ (box_set8 _ _ _ _ _ _ _ _ HX1.out))) rfl ?_
  exact ⟨_, _, _, rfl, fun W hW => ⟨HRS.out.keepP hW.1, RV.nil _⟩, below_set8 _ _ _ _ _ _ _ _ _ HB1.out (by omega)⟩
set_option maxRecDepth 100000 in
set_option maxHeartbeats 8000000 in
theorem one_g_0 (p : PS) (b : UInt8) (au aq : Option Addr) (nu cu nq cq : Nat) (w0 w : World) (hr : RS w0 (.slice au nu cu) (.slice aq nq cq) p) (hw : Pre w0 w) (hs : p.st = 0) (hu : p.utf = []) (k1 : 32 ≤ b.toNat) (k2 : b.toNat < 127) (hj : p.it.size ≤ 1000000) (hk : Ks p.ps) :
    Calls Tryz.prog 31 #[.agg (cS p (.slice au nu cu) (.slice aq nq cq)), .int .u8 (b.toNat : Int)] w (Ret2 (goeS p b) w0 w) := by
  have HRS := Lib.hid hr
  have hnu : nu = p.utf.length := by
    obtain ⟨A9, c9, e9, -⟩ := hr.1
    cases e9
    rfl
  clear hr
  have HW0 := Lib.hid hw; clear hw
  obtain ⟨st, utf, pr, fi, pp, it, tx, bad⟩ := p
  dsimp only at *
  subst hs
  obtain rfl : nu = 0 := by rw [hnu, hu]; rfl
  clear hnu
  have b24 : ((b.toNat : Int) == 24) = false := by simp; omega
  have b26 : ((b.toNat : Int) == 26) = false := by simp; omega
  have b27 : ((b.toNat : Int) == 27) = false := by simp; omega
  have b127 : ((b.toNat : Int) == 127) = false := by simp; omega
  have d32 : decide ((b.toNat : Int) < 32) = false := decide_eq_false (by omega)
  have d128 : decide ((128 : Int) ≤ (b.toNat : Int)) = false := decide_eq_false (by omega)
  have HV1 := Lib.hid (show hasB 0 [7, 12, 14] = false by decide)
  have HV2 := Lib.hid (show hasB 0 [6, 11, 13] = false by decide)
  clear hu k1 k2
  unfold cS
  dsimp only at *
  have HX0 := Lib.hid ((Box.new w #[.int .i64 0, .slice au 0 cu, .int .u8 (pr.toNat : Int), .int .u8 (fi.toNat : Int), .slice aq nq cq, .string it, .string tx, .bool bad] 25).alloc (.cells #[.int .i64 0, .slice none 0 0, .int .u8 0, .int .u8 0, .slice none 0 0, .string ⟨#[]⟩, .string ⟨#[]⟩, .bool false] 25))
  have hx1 := Box.new (w.alloc (.cells #[.int .i64 0, .slice au 0 cu, .int .u8 (pr.toNat : Int), .int .u8 (fi.toNat : Int), .slice aq nq cq, .string it, .string tx, .bool bad] 25)) #[.int .i64 0, .slice none 0 0, .int .u8 0, .int .u8 0, .slice none 0 0, .string ⟨#[]⟩, .string ⟨#[]⟩, .bool false] 25
  rw [World.size_alloc] at hx1
  have HX1 := Lib.hid hx1
  have HB1 := Lib.hid (show Below w.heap.size w ((w.alloc (.cells #[.int .i64 0, .slice au 0 cu, .int .u8 (pr.toNat : Int), .int .u8 (fi.toNat : Int), .slice aq nq cq, .string it, .string tx, .bool bad] 25)).alloc (.cells #[.int .i64 0, .slice none 0 0, .int .u8 0, .int .u8 0, .slice none 0 0, .string ⟨#[]⟩, .string ⟨#[]⟩, .bool false] 25)) from up (below_box _ _) (below_box _ _))
  clear hx1
  have a0 := HX0.out.cell 0 _ rfl
  have a1 := HX0.out.cell 1 _ rfl
  have a2 := HX0.out.cell 2 _ rfl
  have a3 := HX0.out.cell 3 _ rfl
  have a4 := HX0.out.cell 4 _ rfl
  have a5 := HX0.out.cell 5 _ rfl
  have a6 := HX0.out.cell 6 _ rfl
  have a7 := HX0.out.cell 7 _ rfl
  have g0 := HX0.out.free 0 (by show 0 < 8; decide)
  obtain ⟨z0, y0, z1, y1, z2, y2, z3, y3, z4, y4, z5, y5, z6, y6, z7, y7⟩ := cf8 HX1.out
  have l0 := HX0.out.1
  have l1 := HX1.out.1
  go_enter Tryz.func31, Tryz.ntmps31
  go_wp2_with (first
    | (go_at_call 43; refine (has_any _ _ 3 _ [6, 11, 13] _ rfl (rd_at _ _ [6, 11, 13] _ _ rfl (by simp)) (by decide)).mono ?_; rw [HV2.out]; rintro e wn ⟨rfl, hbn⟩; have hk := up (below_box _ _) hbn; have hx0 := HX0.out.keep hk; have hx1 := HX1.out.keep hk; have hbb := up HB1.out hk; clear HX0 HX1 HB1; have HX0 := Lib.hid hx0; have HX1 := Lib.hid hx1; have HB1 := Lib.hid hbb; clear hx0 hx1 hbb hk hbn; clear a0 z0 y0 a1 z1 y1 a2 z2 y2 a3 z3 y3 a4 z4 y4 a5 z5 y5 a6 z6 y6 a7 z7 y7 g0 l0 l1; have a0 := HX0.out.cell 0 _ rfl; have a1 := HX0.out.cell 1 _ rfl; have a2 := HX0.out.cell 2 _ rfl; have a3 := HX0.out.cell 3 _ rfl; have a4 := HX0.out.cell 4 _ rfl; have a5 := HX0.out.cell 5 _ rfl; have a6 := HX0.out.cell 6 _ rfl; have a7 := HX0.out.cell 7 _ rfl; have g0 := HX0.out.free 0 (by show 0 < 8; decide); obtain ⟨z0, y0, z1, y1, z2, y2, z3, y3, z4, y4, z5, y5, z6, y6, z7, y7⟩ := cf8 HX1.out; have l0 := HX0.out.1; have l1 := HX1.out.1)
    | (go_at_call 43; refine (has_any _ _ 3 _ [7, 12, 14] _ rfl (rd_at _ _ [7, 12, 14] _ _ rfl (by simp)) (by decide)).mono ?_; rw [HV1.out]; rintro e wn ⟨rfl, hbn⟩; have hk := up (below_box _ _) hbn; have hx0 := HX0.out.keep hk; have hx1 := HX1.out.keep hk; have hbb := up HB1.out hk; clear HX0 HX1 HB1; have HX0 := Lib.hid hx0; have HX1 := Lib.hid hx1; have HB1 := Lib.hid hbb; clear hx0 hx1 hbb hk hbn; clear a0 z0 y0 a1 z1 y1 a2 z2 y2 a3 z3 y3 a4 z4 y4 a5 z5 y5 a6 z6 y6 a7 z7 y7 g0 l0 l1; have a0 := HX0.out.cell 0 _ rfl; have a1 := HX0.out.cell 1 _ rfl; have a2 := HX0.out.cell 2 _ rfl; have a3 := HX0.out.cell 3 _ rfl; have a4 := HX0.out.cell 4 _ rfl; have a5 := HX0.out.cell 5 _ rfl; have a6 := HX0.out.cell 6 _ rfl; have a7 := HX0.out.cell 7 _ rfl; have g0 := HX0.out.free 0 (by show 0 < 8; decide); obtain ⟨z0, y0, z1, y1, z2, y2, z3, y3, z4, y4, z5, y5, z6, y6, z7, y7⟩ := cf8 HX1.out; have l0 := HX0.out.1; have l1 := HX1.out.1)
    | (go_at_call 55; refine (goes_any ⟨0, utf, pr, fi, pp, it, tx, bad⟩ b au aq 0 cu nq cq w0 _ HRS.out (upP HW0.out HB1.out) (Or.inl rfl) hj hk).mono ?_; rintro e w3 ⟨u, q, v, rfl, hv3, hb3⟩; have hf := hv3 w3 ⟨upP HW0.out (up HB1.out hb3), fun k _ _ => rfl⟩; generalize goeS ⟨0, utf, pr, fi, pp, it, tx, bad⟩ b = r at *; have HV3 := Lib.hid hv3; clear hv3; obtain ⟨⟨rst, rutf, rpr, rfi, rps, rit, rtx, rbad⟩, rl⟩ := r; obtain ⟨A1, c1, hu1⟩ := hf.1.1.form; obtain ⟨A2, c2, hq1⟩ := hf.1.2.form; obtain ⟨A3, c3, hv1⟩ := hf.2.form; dsimp only at hu1 hq1 hv1; subst hu1; subst hq1; subst hv1; clear hf; unfold cS; dsimp only; have hx1 := HX1.out.keep hb3; have hbb := up HB1.out hb3; have hl9 := HX1.out.1; clear HX1; have HX1 := Lib.hid hx1; have HB3 := Lib.hid hbb; clear hx1 hbb; clear a0 z0 y0 a1 z1 y1 a2 z2 y2 a3 z3 y3 a4 z4 y4 a5 z5 y5 a6 z6 y6 a7 z7 y7 g0 l0 l1; obtain ⟨z0, y0, z1, y1, z2, y2, z3, y3, z4, y4, z5, y5, z6, y6, z7, y7⟩ := cf8 HX1.out; have l1 := HX1.out.1))
  refine bodyPost_ret (ret_cell rfl _ _ ⟨w.heap.size + 1, 0, none⟩ _ rfl (load_par8 _ _ _ _ _ _ _ _ _ _ (box_set8 _ _ _ _ _ _ _ _ HX1.out))) rfl ?_
  exact ⟨_, _, _, rfl, fun W hW => HV3.out W (hW.down (by omega) (grown_set8 _ _ _ _ _ _ _ _ _ _) (by omega)), below_set8 _ _ _ _ _ _ _ _ _ HB3.out (by omega)⟩
set_option maxRecDepth 100000 in
set_option maxHeartbeats 8000000 in
theorem one_g_n (p : PS) (b : UInt8) (au aq : Option Addr) (nu cu nq cq : Nat) (w0 w : World) (hr : RS w0 (.slice au nu cu) (.slice aq nq cq) p) (hw : Pre w0 w) (hs : p.st ≠ 0) (hv1 : hasB p.st [7, 12, 14] = false) (hv2 : hasB p.st [6, 11, 13] = false) (k1 : 32 ≤ b.toNat) (k2 : b.toNat < 127) (hsg : p.st = 0 ∨ p.st = 1 ∨ p.st = 2 ∨ p.st = 3 ∨ p.st = 4 ∨ p.st = 5 ∨ p.st = 8 ∨ p.st = 9 ∨ p.st = 10) (hj : p.it.size ≤ 1000000) (hk : Ks p.ps) :
    Calls Tryz.prog 31 #[.agg (cS p (.slice au nu cu) (.slice aq nq cq)), .int .u8 (b.toNat : Int)] w (Ret2 (goeS p b) w0 w) := by
  have HRS := Lib.hid hr
  have hnu : nu = p.utf.length := by
    obtain ⟨A9, c9, e9, -⟩ := hr.1
    cases e9
    rfl
  clear hr
  have HW0 := Lib.hid hw; clear hw
  obtain ⟨st, utf, pr, fi, pp, it, tx, bad⟩ := p
  dsimp only at *
  have HSG := Lib.hid hsg
  clear hsg
  have c0 : (st == 0) = false := by simp; omega
  clear hnu hs
  have b24 : ((b.toNat : Int) == 24) = false := by simp; omega
  have b26 : ((b.toNat : Int) == 26) = false := by simp; omega
  have b27 : ((b.toNat : Int) == 27) = false := by simp; omega
  have b127 : ((b.toNat : Int) == 127) = false := by simp; omega
  have d32 : decide ((b.toNat : Int) < 32) = false := decide_eq_false (by omega)
  have d128 : decide ((128 : Int) ≤ (b.toNat : Int)) = false := decide_eq_false (by omega)
  have HV1 := Lib.hid hv1
  have HV2 := Lib.hid hv2
  clear hv1 hv2
  clear k1 k2
  unfold cS
  dsimp only at *
  have HX0 := Lib.hid ((Box.new w #[.int .i64 st, .slice au nu cu, .int .u8 (pr.toNat : Int), .int .u8 (fi.toNat : Int), .slice aq nq cq, .string it, .string tx, .bool bad] 25).alloc (.cells #[.int .i64 0, .slice none 0 0, .int .u8 0, .int .u8 0, .slice none 0 0, .string ⟨#[]⟩, .string ⟨#[]⟩, .bool false] 25))
  have hx1 := Box.new (w.alloc (.cells #[.int .i64 st, .slice au nu cu, .int .u8 (pr.toNat : Int), .int .u8 (fi.toNat : Int), .slice aq nq cq, .string it, .string tx, .bool bad] 25)) #[.int .i64 0, .slice none 0 0, .int .u8 0, .int .u8 0, .slice none 0 0, .string ⟨#[]⟩, .string ⟨#[]⟩, .bool false] 25
  rw [World.size_alloc] at hx1
  have HX1 := Lib.hid hx1
  have HB1 := Lib.hid (show Below w.heap.size w ((w.alloc (.cells #[.int .i64 st, .slice au nu cu, .int .u8 (pr.toNat : Int), .int .u8 (fi.toNat : Int), .slice aq nq cq, .string it, .string tx, .bool bad] 25)).alloc (.cells #[.int .i64 0, .slice none 0 0, .int .u8 0, .int .u8 0, .slice none 0 0, .string ⟨#[]⟩, .string ⟨#[]⟩, .bool false] 25)) from up (below_box _ _) (below_box _ _))
  clear hx1
  have a0 := HX0.out.cell 0 _ rfl
  have a1 := HX0.out.cell 1 _ rfl
  have a2 := HX0.out.cell 2 _ rfl
  have a3 := HX0.out.cell 3 _ rfl
  have a4 := HX0.out.cell 4 _ rfl
  have a5 := HX0.out.cell 5 _ rfl
  have a6 := HX0.out.cell 6 _ rfl
  have a7 := HX0.out.cell 7 _ rfl
  have g0 := HX0.out.free 0 (by show 0 < 8; decide)
  obtain ⟨z0, y0, z1, y1, z2, y2, z3, y3, z4, y4, z5, y5, z6, y6, z7, y7⟩ := cf8 HX1.out
  have l0 := HX0.out.1
  have l1 := HX1.out.1
  go_enter Tryz.func31, Tryz.ntmps31
  go_wp2_with (first
    | (go_at_call 43; refine (has_any _ _ 3 _ [6, 11, 13] _ rfl (rd_at _ _ [6, 11, 13] _ _ rfl (by simp)) (by decide)).mono ?_; rw [HV2.out]; rintro e wn ⟨rfl, hbn⟩; have hk := up (below_box _ _) hbn; have hx0 := HX0.out.keep hk; have hx1 := HX1.out.keep hk; have hbb := up HB1.out hk; clear HX0 HX1 HB1; have HX0 := Lib.hid hx0; have HX1 := Lib.hid hx1; have HB1 := Lib.hid hbb; clear hx0 hx1 hbb hk hbn; clear a0 z0 y0 a1 z1 y1 a2 z2 y2 a3 z3 y3 a4 z4 y4 a5 z5 y5 a6 z6 y6 a7 z7 y7 g0 l0 l1; have a0 := HX0.out.cell 0 _ rfl; have a1 := HX0.out.cell 1 _ rfl; have a2 := HX0.out.cell 2 _ rfl; have a3 := HX0.out.cell 3 _ rfl; have a4 := HX0.out.cell 4 _ rfl; have a5 := HX0.out.cell 5 _ rfl; have a6 := HX0.out.cell 6 _ rfl; have a7 := HX0.out.cell 7 _ rfl; have g0 := HX0.out.free 0 (by show 0 < 8; decide); obtain ⟨z0, y0, z1, y1, z2, y2, z3, y3, z4, y4, z5, y5, z6, y6, z7, y7⟩ := cf8 HX1.out; have l0 := HX0.out.1; have l1 := HX1.out.1)
    | (go_at_call 43; refine (has_any _ _ 3 _ [7, 12, 14] _ rfl (rd_at _ _ [7, 12, 14] _ _ rfl (by simp)) (by decide)).mono ?_; rw [HV1.out]; rintro e wn ⟨rfl, hbn⟩; have hk := up (below_box _ _) hbn; have hx0 := HX0.out.keep hk; have hx1 := HX1.out.keep hk; have hbb := up HB1.out hk; clear HX0 HX1 HB1; have HX0 := Lib.hid hx0; have HX1 := Lib.hid hx1; have HB1 := Lib.hid hbb; clear hx0 hx1 hbb hk hbn; clear a0 z0 y0 a1 z1 y1 a2 z2 y2 a3 z3 y3 a4 z4 y4 a5 z5 y5 a6 z6 y6 a7 z7 y7 g0 l0 l1; have a0 := HX0.out.cell 0 _ rfl; have a1 := HX0.out.cell 1 _ rfl; have a2 := HX0.out.cell 2 _ rfl; have a3 := HX0.out.cell 3 _ rfl; have a4 := HX0.out.cell 4 _ rfl; have a5 := HX0.out.cell 5 _ rfl; have a6 := HX0.out.cell 6 _ rfl; have a7 := HX0.out.cell 7 _ rfl; have g0 := HX0.out.free 0 (by show 0 < 8; decide); obtain ⟨z0, y0, z1, y1, z2, y2, z3, y3, z4, y4, z5, y5, z6, y6, z7, y7⟩ := cf8 HX1.out; have l0 := HX0.out.1; have l1 := HX1.out.1)
    | (go_at_call 55; refine (goes_any ⟨st, utf, pr, fi, pp, it, tx, bad⟩ b au aq nu cu nq cq w0 _ HRS.out (upP HW0.out HB1.out) HSG.out hj hk).mono ?_; rintro e w3 ⟨u, q, v, rfl, hv3, hb3⟩; have hf := hv3 w3 ⟨upP HW0.out (up HB1.out hb3), fun k _ _ => rfl⟩; generalize goeS ⟨st, utf, pr, fi, pp, it, tx, bad⟩ b = r at *; have HV3 := Lib.hid hv3; clear hv3; obtain ⟨⟨rst, rutf, rpr, rfi, rps, rit, rtx, rbad⟩, rl⟩ := r; obtain ⟨A1, c1, hu1⟩ := hf.1.1.form; obtain ⟨A2, c2, hq1⟩ := hf.1.2.form; obtain ⟨A3, c3, hv1⟩ := hf.2.form; dsimp only at hu1 hq1 hv1; subst hu1; subst hq1; subst hv1; clear hf; unfold cS; dsimp only; have hx1 := HX1.out.keep hb3; have hbb := up HB1.out hb3; have hl9 := HX1.out.1; clear HX1; have HX1 := Lib.hid hx1; have HB3 := Lib.hid hbb; clear hx1 hbb; clear a0 z0 y0 a1 z1 y1 a2 z2 y2 a3 z3 y3 a4 z4 y4 a5 z5 y5 a6 z6 y6 a7 z7 y7 g0 l0 l1; obtain ⟨z0, y0, z1, y1, z2, y2, z3, y3, z4, y4, z5, y5, z6, y6, z7, y7⟩ := cf8 HX1.out; have l1 := HX1.out.1))
  refine bodyPost_ret (ret_cell rfl _ _ ⟨w.heap.size + 1, 0, none⟩ _ rfl (load_par8 _ _ _ _ _ _ _ _ _ _ (box_set8 _ _ _ _ _ _ _ _ HX1.out))) rfl ?_
  exact ⟨_, _, _, rfl, fun W hW => HV3.out W (hW.down (by omega) (grown_set8 _ _ _ _ _ _ _ _ _ _) (by omega)), below_set8 _ _ _ _ _ _ _ _ _ HB3.out (by omega)⟩
set_option maxRecDepth 100000 in
set_option maxHeartbeats 8000000 in
theorem one_w (p : PS) (b : UInt8) (au aq : Option Addr) (nu cu nq cq : Nat) (w0 w : World) (hr : RS w0 (.slice au nu cu) (.slice aq nq cq) p) (hw : Pre w0 w) (hs : p.st ≠ 0) (hv1 : hasB p.st [7, 12, 14] = false) (hv2 : hasB p.st [6, 11, 13] = true) (hb : b.toNat ≠ 24 ∧ b.toNat ≠ 26 ∧ b.toNat ≠ 27) (hi : p.tx.size ≤ 1000000) :
    Calls Tryz.prog 31 #[.agg (cS p (.slice au nu cu) (.slice aq nq cq)), .int .u8 (b.toNat : Int)] w (Ret2 (witS p b) w0 w) := by
  have HRS := Lib.hid hr
  have hnu : nu = p.utf.length := by
    obtain ⟨A9, c9, e9, -⟩ := hr.1
    cases e9
    rfl
  clear hr
  have HW0 := Lib.hid hw; clear hw
  obtain ⟨st, utf, pr, fi, pp, it, tx, bad⟩ := p
  dsimp only at *
  have c0 : (st == 0) = false := by simp; omega
  clear hnu hs
  have b24 : ((b.toNat : Int) == 24) = false := by simp; omega
  have b26 : ((b.toNat : Int) == 26) = false := by simp; omega
  have b27 : ((b.toNat : Int) == 27) = false := by simp; omega
  have HV1 := Lib.hid hv1
  have HV2 := Lib.hid hv2
  clear hv1 hv2
  clear hb
  unfold cS
  dsimp only at *
  have HX0 := Lib.hid ((Box.new w #[.int .i64 st, .slice au nu cu, .int .u8 (pr.toNat : Int), .int .u8 (fi.toNat : Int), .slice aq nq cq, .string it, .string tx, .bool bad] 25).alloc (.cells #[.int .i64 0, .slice none 0 0, .int .u8 0, .int .u8 0, .slice none 0 0, .string ⟨#[]⟩, .string ⟨#[]⟩, .bool false] 25))
  have hx1 := Box.new (w.alloc (.cells #[.int .i64 st, .slice au nu cu, .int .u8 (pr.toNat : Int), .int .u8 (fi.toNat : Int), .slice aq nq cq, .string it, .string tx, .bool bad] 25)) #[.int .i64 0, .slice none 0 0, .int .u8 0, .int .u8 0, .slice none 0 0, .string ⟨#[]⟩, .string ⟨#[]⟩, .bool false] 25
  rw [World.size_alloc] at hx1
  have HX1 := Lib.hid hx1
  have HB1 := Lib.hid (show Below w.heap.size w ((w.alloc (.cells #[.int .i64 st, .slice au nu cu, .int .u8 (pr.toNat : Int), .int .u8 (fi.toNat : Int), .slice aq nq cq, .string it, .string tx, .bool bad] 25)).alloc (.cells #[.int .i64 0, .slice none 0 0, .int .u8 0, .int .u8 0, .slice none 0 0, .string ⟨#[]⟩, .string ⟨#[]⟩, .bool false] 25)) from up (below_box _ _) (below_box _ _))
  clear hx1
  have a0 := HX0.out.cell 0 _ rfl
  have a1 := HX0.out.cell 1 _ rfl
  have a2 := HX0.out.cell 2 _ rfl
  have a3 := HX0.out.cell 3 _ rfl
  have a4 := HX0.out.cell 4 _ rfl
  have a5 := HX0.out.cell 5 _ rfl
  have a6 := HX0.out.cell 6 _ rfl
  have a7 := HX0.out.cell 7 _ rfl
  have g0 := HX0.out.free 0 (by show 0 < 8; decide)
  obtain ⟨z0, y0, z1, y1, z2, y2, z3, y3, z4, y4, z5, y5, z6, y6, z7, y7⟩ := cf8 HX1.out
  have l0 := HX0.out.1
  have l1 := HX1.out.1
  go_enter Tryz.func31, Tryz.ntmps31
  go_wp2_with (first
    | (go_at_call 43; refine (has_any _ _ 3 _ [6, 11, 13] _ rfl (rd_at _ _ [6, 11, 13] _ _ rfl (by simp)) (by decide)).mono ?_; rw [HV2.out]; rintro e wn ⟨rfl, hbn⟩; have hk := up (below_box _ _) hbn; have hx0 := HX0.out.keep hk; have hx1 := HX1.out.keep hk; have hbb := up HB1.out hk; clear HX0 HX1 HB1; have HX0 := Lib.hid hx0; have HX1 := Lib.hid hx1; have HB1 := Lib.hid hbb; clear hx0 hx1 hbb hk hbn; clear a0 z0 y0 a1 z1 y1 a2 z2 y2 a3 z3 y3 a4 z4 y4 a5 z5 y5 a6 z6 y6 a7 z7 y7 g0 l0 l1; have a0 := HX0.out.cell 0 _ rfl; have a1 := HX0.out.cell 1 _ rfl; have a2 := HX0.out.cell 2 _ rfl; have a3 := HX0.out.cell 3 _ rfl; have a4 := HX0.out.cell 4 _ rfl; have a5 := HX0.out.cell 5 _ rfl; have a6 := HX0.out.cell 6 _ rfl; have a7 := HX0.out.cell 7 _ rfl; have g0 := HX0.out.free 0 (by show 0 < 8; decide); obtain ⟨z0, y0, z1, y1, z2, y2, z3, y3, z4, y4, z5, y5, z6, y6, z7, y7⟩ := cf8 HX1.out; have l0 := HX0.out.1; have l1 := HX1.out.1)
    | (go_at_call 43; refine (has_any _ _ 3 _ [7, 12, 14] _ rfl (rd_at _ _ [7, 12, 14] _ _ rfl (by simp)) (by decide)).mono ?_; rw [HV1.out]; rintro e wn ⟨rfl, hbn⟩; have hk := up (below_box _ _) hbn; have hx0 := HX0.out.keep hk; have hx1 := HX1.out.keep hk; have hbb := up HB1.out hk; clear HX0 HX1 HB1; have HX0 := Lib.hid hx0; have HX1 := Lib.hid hx1; have HB1 := Lib.hid hbb; clear hx0 hx1 hbb hk hbn; clear a0 z0 y0 a1 z1 y1 a2 z2 y2 a3 z3 y3 a4 z4 y4 a5 z5 y5 a6 z6 y6 a7 z7 y7 g0 l0 l1; have a0 := HX0.out.cell 0 _ rfl; have a1 := HX0.out.cell 1 _ rfl; have a2 := HX0.out.cell 2 _ rfl; have a3 := HX0.out.cell 3 _ rfl; have a4 := HX0.out.cell 4 _ rfl; have a5 := HX0.out.cell 5 _ rfl; have a6 := HX0.out.cell 6 _ rfl; have a7 := HX0.out.cell 7 _ rfl; have g0 := HX0.out.free 0 (by show 0 < 8; decide); obtain ⟨z0, y0, z1, y1, z2, y2, z3, y3, z4, y4, z5, y5, z6, y6, z7, y7⟩ := cf8 HX1.out; have l0 := HX0.out.1; have l1 := HX1.out.1)
    | (go_at_call 54; refine (within_any ⟨st, utf, pr, fi, pp, it, tx, bad⟩ b au aq nu cu nq cq w0 _ HRS.out hi).mono ?_; rintro e w3 ⟨u, q, v, rfl, hv3, hb3⟩; have hf := hv3 w3 ⟨upP HW0.out (up HB1.out hb3), fun k _ _ => rfl⟩; generalize witS ⟨st, utf, pr, fi, pp, it, tx, bad⟩ b = r at *; have HV3 := Lib.hid hv3; clear hv3; obtain ⟨⟨rst, rutf, rpr, rfi, rps, rit, rtx, rbad⟩, rl⟩ := r; obtain ⟨A1, c1, hu1⟩ := hf.1.1.form; obtain ⟨A2, c2, hq1⟩ := hf.1.2.form; obtain ⟨A3, c3, hv1⟩ := hf.2.form; dsimp only at hu1 hq1 hv1; subst hu1; subst hq1; subst hv1; clear hf; unfold cS; dsimp only; have hx1 := HX1.out.keep hb3; have hbb := up HB1.out hb3; have hl9 := HX1.out.1; clear HX1; have HX1 := Lib.hid hx1; have HB3 := Lib.hid hbb; clear hx1 hbb; clear a0 z0 y0 a1 z1 y1 a2 z2 y2 a3 z3 y3 a4 z4 y4 a5 z5 y5 a6 z6 y6 a7 z7 y7 g0 l0 l1; obtain ⟨z0, y0, z1, y1, z2, y2, z3, y3, z4, y4, z5, y5, z6, y6, z7, y7⟩ := cf8 HX1.out; have l1 := HX1.out.1))
  refine bodyPost_ret (ret_cell rfl _ _ ⟨w.heap.size + 1, 0, none⟩ _ rfl (load_par8 _ _ _ _ _ _ _ _ _ _ (box_set8 _ _ _ _ _ _ _ _ HX1.out))) rfl ?_
  exact ⟨_, _, _, rfl, fun W hW => HV3.out W (hW.down (by omega) (grown_set8 _ _ _ _ _ _ _ _ _ _) (by omega)), below_set8 _ _ _ _ _ _ _ _ _ HB3.out (by omega)⟩
end Go.Proofs.YtmboekpomjgnnaaGreatDoor.Sta
