/-
  StaNa
-/
import Derived.Test.YtmboekpomjgnnaaGreatDoorF32
import Derived.Test.YtmboekpomjgnnaaGreatDoorF39
namespace Go.Proofs.YtmboekpomjgnnaaGreatDoor.Sta
open Go.RowKit Utf Par

theorem rd_at (w : World) (g : Nat) (l : List Int) (t : TypeId) (cs : Array Value) (h : cs.toList = cI l) (hg : w.heap.size = g) : Rd (w.alloc (.cells cs t)) (some ⟨g, 0, none⟩) (cI l) := by
  subst hg
  exact rd_lit w l t cs h
set_option maxRecDepth 100000 in
set_option maxHeartbeats 8000000 in
theorem one_24_0 (p : PS) (b : UInt8) (au aq : Option Addr) (nu cu nq cq : Nat) (w0 w : World) (hr : RS w0 (.slice au nu cu) (.slice aq nq cq) p) (hw : Pre w0 w) (hs : p.st = 0) (hu : p.utf = []) (hb : b.toNat = 24) :
    Calls Tryz.prog 31 #[.agg (cS p (.slice au nu cu) (.slice aq nq cq)), .int .u8 (b.toNat : Int)] w (Ret2 (begS 0, []) w0 w) := by
  have HRS := Lib.hid hr
  have hnu : nu = p.utf.length := by
    obtain ⟨A9, c9, e9, -⟩ := hr.1
    cases e9
    rfl
  clear hr
  have HW0 := Lib.hid hw; clear hw
  obtain ⟨st, utf, pr, fi, pp, it, tx, bad⟩ := p
  dsimp only at *
  subst hs
  have hbv : (b.toNat : Int) = 24 := by omega
  rw [hbv]
  obtain rfl : nu = 0 := by rw [hnu, hu]; rfl
  clear hnu
  have HV1 := Lib.hid (show hasB 0 [7, 12, 14] = false by decide)
  have HV2 := Lib.hid (show hasB 0 [6, 11, 13] = false by decide)
  clear hbv
  clear hu hb
  unfold cS
  dsimp only at *
  have HX0 := Lib.hid ((Box.new w #[.int .i64 0, .slice au 0 cu, .int .u8 (pr.toNat : Int), .int .u8 (fi.toNat : Int), .slice aq nq cq, .string it, .string tx, .bool bad] 25).alloc (.cells #[.int .i64 0, .slice none 0 0, .int .u8 0, .int .u8 0, .slice none 0 0, .string ⟨#[]⟩, .string ⟨#[]⟩, .bool false] 25))
  have hx1 := Box.new (w.alloc (.cells #[.int .i64 0, .slice au 0 cu, .int .u8 (pr.toNat : Int), .int .u8 (fi.toNat : Int), .slice aq nq cq, .string it, .string tx, .bool bad] 25)) #[.int .i64 0, .slice none 0 0, .int .u8 0, .int .u8 0, .slice none 0 0, .string ⟨#[]⟩, .string ⟨#[]⟩, .bool false] 25
  rw [World.size_alloc] at hx1
  have HX1 := Lib.hid hx1
  have HB1 := Lib.hid (show Below w.heap.size w ((w.alloc (.cells #[.int .i64 0, .slice au 0 cu, .int .u8 (pr.toNat : Int), .int .u8 (fi.toNat : Int), .slice aq nq cq, .string it, .string tx, .bool bad] 25)).alloc (.cells #[.int .i64 0, .slice none 0 0, .int .u8 0, .int .u8 0, .slice none 0 0, .string ⟨#[]⟩, .string ⟨#[]⟩, .bool false] 25)) from up (below_box _ _) (below_box _ _))
  clear hx1
  have a0 := HX0.out.cell 0 _ rfl
  have a1 := HX0.out.cell 1 _ rfl
  have a2 := HX0.out.cell 2 _ rfl
  have a3 := HX0.out.cell 3 _ rfl
  have a4 := HX0.out.cell 4 _ rfl
  have a5 := HX0.out.cell 5 _ rfl
  have a6 := HX0.out.cell 6 _ rfl
  have a7 := HX0.out.cell 7 _ rfl
  have g0 := HX0.out.free 0 (by show 0 < 8; decide)
  obtain ⟨z0, y0, z1, y1, z2, y2, z3, y3, z4, y4, z5, y5, z6, y6, z7, y7⟩ := cf8 HX1.out
  have l0 := HX0.out.1
  have l1 := HX1.out.1
  go_enter Tryz.func31, Tryz.ntmps31
  go_wp2_with (first
    | (go_at_call 43; refine (has_any _ _ 3 _ [6, 11, 13] _ rfl (rd_at _ _ [6, 11, 13] _ _ rfl (by simp)) (by decide)).mono ?_; rw [HV2.out]; rintro e wn ⟨rfl, hbn⟩; have hk := up (below_box _ _) hbn; have hx0 := HX0.out.keep hk; have hx1 := HX1.out.keep hk; have hbb := up HB1.out hk; clear HX0 HX1 HB1; have HX0 := Lib.hid hx0; have HX1 := Lib.hid hx1; have HB1 := Lib.hid hbb; clear hx0 hx1 hbb hk hbn; clear a0 z0 y0 a1 z1 y1 a2 z2 y2 a3 z3 y3 a4 z4 y4 a5 z5 y5 a6 z6 y6 a7 z7 y7 g0 l0 l1; have a0 := HX0.out.cell 0 _ rfl; have a1 := HX0.out.cell 1 _ rfl; have a2 := HX0.out.cell 2 _ rfl; have a3 := HX0.out.cell 3 _ rfl; have a4 := HX0.out.cell 4 _ rfl; have a5 := HX0.out.cell 5 _ rfl; have a6 := HX0.out.cell 6 _ rfl; have a7 := HX0.out.cell 7 _ rfl; have g0 := HX0.out.free 0 (by show 0 < 8; decide); obtain ⟨z0, y0, z1, y1, z2, y2, z3, y3, z4, y4, z5, y5, z6, y6, z7, y7⟩ := cf8 HX1.out; have l0 := HX0.out.1; have l1 := HX1.out.1)
    | (go_at_call 43; refine (has_any _ _ 3 _ [7, 12, 14] _ rfl (rd_at _ _ [7, 12, 14] _ _ rfl (by simp)) (by decide)).mono ?_; rw [HV1.out]; rintro e wn ⟨rfl, hbn⟩; have hk := up (below_box _ _) hbn; have hx0 := HX0.out.keep hk; have hx1 := HX1.out.keep hk; have hbb := up HB1.out hk; clear HX0 HX1 HB1; have HX0 := Lib.hid hx0; have HX1 := Lib.hid hx1; have HB1 := Lib.hid hbb; clear hx0 hx1 hbb hk hbn; clear a0 z0 y0 a1 z1 y1 a2 z2 y2 a3 z3 y3 a4 z4 y4 a5 z5 y5 a6 z6 y6 a7 z7 y7 g0 l0 l1; have a0 := HX0.out.cell 0 _ rfl; have a1 := HX0.out.cell 1 _ rfl; have a2 := HX0.out.cell 2 _ rfl; have a3 := HX0.out.cell 3 _ rfl; have a4 := HX0.out.cell 4 _ rfl; have a5 := HX0.out.cell 5 _ rfl; have a6 := HX0.out.cell 6 _ rfl; have a7 := HX0.out.cell 7 _ rfl; have g0 := HX0.out.free 0 (by show 0 < 8; decide); obtain ⟨z0, y0, z1, y1, z2, y2, z3, y3, z4, y4, z5, y5, z6, y6, z7, y7⟩ := cf8 HX1.out; have l0 := HX0.out.1; have l1 := HX1.out.1)
    | (go_at_call 52; refine (begin_any 0 _).mono ?_; rintro e w3 ⟨rfl, hb3⟩; have hx1 := HX1.out.keep hb3; have hbb := up HB1.out hb3; have hl9 := HX1.out.1; clear HX1; have HX1 := Lib.hid hx1; have HB3 := Lib.hid hbb; clear hx1 hbb; clear a0 z0 y0 a1 z1 y1 a2 z2 y2 a3 z3 y3 a4 z4 y4 a5 z5 y5 a6 z6 y6 a7 z7 y7 g0 l0 l1; obtain ⟨z0, y0, z1, y1, z2, y2, z3, y3, z4, y4, z5, y5, z6, y6, z7, y7⟩ := cf8 HX1.out; have l1 := HX1.out.1))
  refine bodyPost_ret (ret_cell rfl _ _ ⟨w.heap.size + 1, 0, none⟩ _ rfl (load_par8 _ _ _ _ _ _ _ _ _ _ (box_set8 _ _ _ _ _ _ _ _ HX1.out))) rfl ?_
  exact ⟨_, _, _, rfl, fun W hW => ⟨RS.nil _ _ rfl rfl, RV.nil _⟩, below_set8 _ _ _ _ _ _ _ _ _ HB3.out (by omega)⟩
set_option maxRecDepth 100000 in
set_option maxHeartbeats 8000000 in
theorem one_24_n (p : PS) (b : UInt8) (au aq : Option Addr) (nu cu nq cq : Nat) (w0 w : World) (hr : RS w0 (.slice au nu cu) (.slice aq nq cq) p) (hw : Pre w0 w) {v1 v2 : Bool} (hs : p.st ≠ 0) (hv1 : hasB p.st [7, 12, 14] = v1) (hv2 : hasB p.st [6, 11, 13] = v2) (hb : b.toNat = 24) :
    Calls Tryz.prog 31 #[.agg (cS p (.slice au nu cu) (.slice aq nq cq)), .int .u8 (b.toNat : Int)] w (Ret2 (begS 0, []) w0 w) := by
  have HRS := Lib.hid hr
  have hnu : nu = p.utf.length := by
    obtain ⟨A9, c9, e9, -⟩ := hr.1
    cases e9
    rfl
  clear hr
  have HW0 := Lib.hid hw; clear hw
  obtain ⟨st, utf, pr, fi, pp, it, tx, bad⟩ := p
  dsimp only at *
  have hbv : (b.toNat : Int) = 24 := by omega
  rw [hbv]
  have c0 : (st == 0) = false := by simp; omega
  clear hnu hs
  have HV1 := Lib.hid hv1
  have HV2 := Lib.hid hv2
  clear hv1 hv2
  clear hbv
  clear hb
  unfold cS
  dsimp only at *
  have HX0 := Lib.hid ((Box.new w #[.int .i64 st, .slice au nu cu, .int .u8 (pr.toNat : Int), .int .u8 (fi.toNat : Int), .slice aq nq cq, .string it, .string tx, .bool bad] 25).alloc (.cells #[.int .i64 0, .slice none 0 0, .int .u8 0, .int .u8 0, .slice none 0 0, .string ⟨#[]⟩, .string ⟨#[]⟩, .bool false] 25))
  have hx1 := Box.new (w.alloc (.cells #[.int .i64 st, .slice au nu cu, .int .u8 (pr.toNat : Int), .int .u8 (fi.toNat : Int), .slice aq nq cq, .string it, .string tx, .bool bad] 25)) #[.int .i64 0, .slice none 0 0, .int .u8 0, .int .u8 0, .slice none 0 0, .string ⟨#[]⟩, .string ⟨#[]⟩, .bool false] 25
  rw [World.size_alloc] at hx1
  have HX1 := Lib.hid hx1
  have HB1 := Lib.hid (show Below w.heap.size w ((w.alloc (.cells #[.int .i64 st, .slice au nu cu, .int .u8 (pr.toNat : Int), .int .u8 (fi.toNat : Int), .slice aq nq cq, .string it, .string tx, .bool bad] 25)).alloc (.cells #[.int .i64 0, .slice none 0 0, .int .u8 0, .int .u8 0, .slice none 0 0, .string ⟨#[]⟩, .string ⟨#[]⟩, .bool false] 25)) from up (below_box _ _) (below_box _ _))
  clear hx1
  have a0 := HX0.out.cell 0 _ rfl
  have a1 := HX0.out.cell 1 _ rfl
  have a2 := HX0.out.cell 2 _ rfl
  have a3 := HX0.out.cell 3 _ rfl
  have a4 := HX0.out.cell 4 _ rfl
  have a5 := HX0.out.cell 5 _ rfl
  have a6 := HX0.out.cell 6 _ rfl
  have a7 := HX0.out.cell 7 _ rfl
  have g0 := HX0.out.free 0 (by show 0 < 8; decide)
  obtain ⟨z0, y0, z1, y1, z2, y2, z3, y3, z4, y4, z5, y5, z6, y6, z7, y7⟩ := cf8 HX1.out
  have l0 := HX0.out.1
  have l1 := HX1.out.1
  go_enter Tryz.func31, Tryz.ntmps31
  go_wp2_with (first
    | (go_at_call 43; refine (has_any _ _ 3 _ [6, 11, 13] _ rfl (rd_at _ _ [6, 11, 13] _ _ rfl (by simp)) (by decide)).mono ?_; rw [HV2.out]; rintro e wn ⟨rfl, hbn⟩; have hk := up (below_box _ _) hbn; have hx0 := HX0.out.keep hk; have hx1 := HX1.out.keep hk; have hbb := up HB1.out hk; clear HX0 HX1 HB1; have HX0 := Lib.hid hx0; have HX1 := Lib.hid hx1; have HB1 := Lib.hid hbb; clear hx0 hx1 hbb hk hbn; clear a0 z0 y0 a1 z1 y1 a2 z2 y2 a3 z3 y3 a4 z4 y4 a5 z5 y5 a6 z6 y6 a7 z7 y7 g0 l0 l1; have a0 := HX0.out.cell 0 _ rfl; have a1 := HX0.out.cell 1 _ rfl; have a2 := HX0.out.cell 2 _ rfl; have a3 := HX0.out.cell 3 _ rfl; have a4 := HX0.out.cell 4 _ rfl; have a5 := HX0.out.cell 5 _ rfl; have a6 := HX0.out.cell 6 _ rfl; have a7 := HX0.out.cell 7 _ rfl; have g0 := HX0.out.free 0 (by show 0 < 8; decide); obtain ⟨z0, y0, z1, y1, z2, y2, z3, y3, z4, y4, z5, y5, z6, y6, z7, y7⟩ := cf8 HX1.out; have l0 := HX0.out.1; have l1 := HX1.out.1)
    | (go_at_call 43; refine (has_any _ _ 3 _ [7, 12, 14] _ rfl (rd_at _ _ [7, 12, 14] _ _ rfl (by simp)) (by decide)).mono ?_; rw [HV1.out]; rintro e wn ⟨rfl, hbn⟩; have hk := up (below_box _ _) hbn; have hx0 := HX0.out.keep hk; have hx1 := HX1.out.keep hk; have hbb := up HB1.out hk; clear HX0 HX1 HB1; have HX0 := Lib.hid hx0; have HX1 := Lib.hid hx1; have HB1 := Lib.hid hbb; clear hx0 hx1 hbb hk hbn; clear a0 z0 y0 a1 z1 y1 a2 z2 y2 a3 z3 y3 a4 z4 y4 a5 z5 y5 a6 z6 y6 a7 z7 y7 g0 l0 l1; have a0 := HX0.out.cell 0 _ rfl; have a1 := HX0.out.cell 1 _ rfl; have a2 := HX0.out.cell 2 _ rfl; have a3 := HX0.out.cell 3 _ rfl; have a4 := HX0.out.cell 4 _ rfl; have a5 := HX0.out.cell 5 _ rfl; have a6 := HX0.out.cell 6 _ rfl; have a7 := HX0.out.cell 7 _ rfl; have g0 := HX0.out.free 0 (by show 0 < 8; decide); obtain ⟨z0, y0, z1, y1, z2, y2, z3, y3, z4, y4, z5, y5, z6, y6, z7, y7⟩ := cf8 HX1.out; have l0 := HX0.out.1; have l1 := HX1.out.1)
    | (go_at_call 52; refine (begin_any 0 _).mono ?_; rintro e w3 ⟨rfl, hb3⟩; have hx1 := HX1.out.keep hb3; have hbb := up HB1.out hb3; have hl9 := HX1.out.1; clear HX1; have HX1 := Lib.hid hx1; have HB3 := Lib.hid hbb; clear hx1 hbb; clear a0 z0 y0 a1 z1 y1 a2 z2 y2 a3 z3 y3 a4 z4 y4 a5 z5 y5 a6 z6 y6 a7 z7 y7 g0 l0 l1; obtain ⟨z0, y0, z1, y1, z2, y2, z3, y3, z4, y4, z5, y5, z6, y6, z7, y7⟩ := cf8 HX1.out; have l1 := HX1.out.1))
  refine bodyPost_ret (ret_cell rfl _ _ ⟨w.heap.size + 1, 0, none⟩ _ rfl (load_par8 _ _ _ _ _ _ _ _ _ _ (box_set8 _ _ _ _ _ _ _ _ HX1.out))) rfl ?_
  exact ⟨_, _, _, rfl, fun W hW => ⟨RS.nil _ _ rfl rfl, RV.nil _⟩, below_set8 _ _ _ _ _ _ _ _ _ HB3.out (by omega)⟩
set_option maxRecDepth 100000 in
set_option maxHeartbeats 8000000 in
theorem one_26_0 (p : PS) (b : UInt8) (au aq : Option Addr) (nu cu nq cq : Nat) (w0 w : World) (hr : RS w0 (.slice au nu cu) (.slice aq nq cq) p) (hw : Pre w0 w) (hs : p.st = 0) (hu : p.utf = []) (hb : b.toNat = 26) :
    Calls Tryz.prog 31 #[.agg (cS p (.slice au nu cu) (.slice aq nq cq)), .int .u8 (b.toNat : Int)] w (Ret2 (begS 0, []) w0 w) := by
  have HRS := Lib.hid hr
  have hnu : nu = p.utf.length := by
    obtain ⟨A9, c9, e9, -⟩ := hr.1
    cases e9
    rfl
  clear hr
  have HW0 := Lib.hid hw; clear hw
  obtain ⟨st, utf, pr, fi, pp, it, tx, bad⟩ := p
  dsimp only at *
  subst hs
  have hbv : (b.toNat : Int) = 26 := by omega
  rw [hbv]
  obtain rfl : nu = 0 := by rw [hnu, hu]; rfl
  clear hnu
  have HV1 := Lib.hid (show hasB 0 [7, 12, 14] = false by decide)
  have HV2 := Lib.hid (show hasB 0 [6, 11, 13] = false by decide)
  clear hbv
  clear hu hb
  unfold cS
  dsimp only at *
  have HX0 := Lib.hid ((Box.new w #[.int .i64 0, .slice au 0 cu, .int .u8 (pr.toNat : Int), .int .u8 (fi.toNat : Int), .slice aq nq cq, .string it, .string tx, .bool bad] 25).alloc (.cells #[.int .i64 0, .slice none 0 0, .int .u8 0, .int .u8 0, .slice none 0 0, .string ⟨#[]⟩, .string ⟨#[]⟩, .bool false] 25))
  have hx1 := Box.new (w.alloc (.cells #[.int .i64 0, .slice au 0 cu, .int .u8 (pr.toNat : Int), .int .u8 (fi.toNat : Int), .slice aq nq cq, .string it, .string tx, .bool bad] 25)) #[.int .i64 0, .slice none 0 0, .int .u8 0, .int .u8 0, .slice none 0 0, .string ⟨#[]⟩, .string ⟨#[]⟩, .bool false] 25
  rw [World.size_alloc] at hx1
  have HX1 := Lib.hid hx1
  have HB1 := Lib.hid (show Below w.heap.size w ((w.alloc (.cells #[.int .i64 0, .slice au 0 cu, .int .u8 (pr.toNat : Int), .int .u8 (fi.toNat : Int), .slice aq nq cq, .string it, .string tx, .bool bad] 25)).alloc (.cells #[.int .i64 0, .slice none 0 0, .int .u8 0, .int .u8 0, .slice none 0 0, .string ⟨#[]⟩, .string ⟨#[]⟩, .bool false] 25)) from up (below_box _ _) (below_box _ _))
  clear hx1
  have a0 := HX0.out.cell 0 _ rfl
  have a1 := HX0.out.cell 1 _ rfl
  have a2 := HX0.out.cell 2 _ rfl
  have a3 := HX0.out.cell 3 _ rfl
  have a4 := HX0.out.cell 4 _ rfl
  have a5 := HX0.out.cell 5 _ rfl
  have a6 := HX0.out.cell 6 _ rfl
  have a7 := HX0.out.cell 7 _ rfl
  have g0 := HX0.out.free 0 (by show 0 < 8; decide)
  obtain ⟨z0, y0, z1, y1, z2, y2, z3, y3, z4, y4, z5, y5, z6, y6, z7, y7⟩ := cf8 HX1.out
  have l0 := HX0.out.1
  have l1 := HX1.out.1
  go_enter Tryz.func31, Tryz.ntmps31
  go_wp2_with (first
    | (go_at_call 43; refine (has_any _ _ 3 _ [6, 11, 13] _ rfl (rd_at _ _ [6, 11, 13] _ _ rfl (by simp)) (by decide)).mono ?_; rw [HV2.out]; rintro e wn ⟨rfl, hbn⟩; have hk := up (below_box _ _) hbn; have hx0 := HX0.out.keep hk; have hx1 := HX1.out.keep hk; have hbb := up HB1.out hk; clear HX0 HX1 HB1; have HX0 := Lib.hid hx0; have HX1 := Lib.hid hx1; have HB1 := Lib.hid hbb; clear hx0 hx1 hbb hk hbn; clear a0 z0 y0 a1 z1 y1 a2 z2 y2 a3 z3 y3 a4 z4 y4 a5 z5 y5 a6 z6 y6 a7 z7 y7 g0 l0 l1; have a0 := HX0.out.cell 0 _ rfl; have a1 := HX0.out.cell 1 _ rfl; have a2 := HX0.out.cell 2 _ rfl; have a3 := HX0.out.cell 3 _ rfl; have a4 := HX0.out.cell 4 _ rfl; have a5 := HX0.out.cell 5 _ rfl; have a6 := HX0.out.cell 6 _ rfl; have a7 := HX0.out.cell 7 _ rfl; have g0 := HX0.out.free 0 (by show 0 < 8; decide); obtain ⟨z0, y0, z1, y1, z2, y2, z3, y3, z4, y4, z5, y5, z6, y6, z7, y7⟩ := cf8 HX1.out; have l0 := HX0.out.1; have l1 := HX1.out.1)
    | (go_at_call 43; refine (has_any _ _ 3 _ [7, 12, 14] _ rfl (rd_at _ _ [7, 12, 14] _ _ rfl (by simp)) (by decide)).mono ?_; rw [HV1.out]; rintro e wn ⟨rfl, hbn⟩; have hk := up (below_box _ _) hbn; have hx0 := HX0.out.keep hk; have hx1 := HX1.out.keep hk; have hbb := up HB1.out hk; clear HX0 HX1 HB1; have HX0 := Lib.hid hx0; have HX1 := Lib.hid hx1; have HB1 := Lib.hid hbb; clear hx0 hx1 hbb hk hbn; clear a0 z0 y0 a1 z1 y1 a2 z2 y2 a3 z3 y3 a4 z4 y4 a5 z5 y5 a6 z6 y6 a7 z7 y7 g0 l0 l1; have a0 := HX0.out.cell 0 _ rfl; have a1 := HX0.out.cell 1 _ rfl; have a2 := HX0.out.cell 2 _ rfl; have a3 := HX0.out.cell 3 _ rfl; have a4 := HX0.out.cell 4 _ rfl; have a5 := HX0.out.cell 5 _ rfl; have a6 := HX0.out.cell 6 _ rfl; have a7 := HX0.out.cell 7 _ rfl; have g0 := HX0.out.free 0 (by show 0 < 8; decide); obtain ⟨z0, y0, z1, y1, z2, y2, z3, y3, z4, y4, z5, y5, z6, y6, z7, y7⟩ := cf8 HX1.out; have l0 := HX0.out.1; have l1 := HX1.out.1)
    | (go_at_call 52; refine (begin_any 0 _).mono ?_; rintro e w3 ⟨rfl, hb3⟩; have hx1 := HX1.out.keep hb3; have hbb := up HB1.out hb3; have hl9 := HX1.out.1; clear HX1; have HX1 := Lib.hid hx1; have HB3 := Lib.hid hbb; clear hx1 hbb; clear a0 z0 y0 a1 z1 y1 a2 z2 y2 a3 z3 y3 a4 z4 y4 a5 z5 y5 a6 z6 y6 a7 z7 y7 g0 l0 l1; obtain ⟨z0, y0, z1, y1, z2, y2, z3, y3, z4, y4, z5, y5, z6, y6, z7, y7⟩ := cf8 HX1.out; have l1 := HX1.out.1))
  refine bodyPost_ret (ret_cell rfl _ _ ⟨w.heap.size + 1, 0, none⟩ _ rfl (load_par8 _ _ _ _ _ _ _ _ _ _ (box_set8 _ _ _ _ _ _ _ _ HX1.out))) rfl ?_
  exact ⟨_, _, _, rfl, fun W hW => ⟨RS.nil _ _ rfl rfl, RV.nil _⟩, below_set8 _ _ _ _ _ _ _ _ _ HB3.out (by omega)⟩
set_option maxRecDepth 100000 in
set_option maxHeartbeats 8000000 in
theorem one_26_n (p : PS) (b : UInt8) (au aq : Option Addr) (nu cu nq cq : Nat) (w0 w : World) (hr : RS w0 (.slice au nu cu) (.slice aq nq cq) p) (hw : Pre w0 w) {v1 v2 : Bool} (hs : p.st ≠ 0) (hv1 : hasB p.st [7, 12, 14] = v1) (hv2 : hasB p.st [6, 11, 13] = v2) (hb : b.toNat = 26) :
    Calls Tryz.prog 31 #[.agg (cS p (.slice au nu cu) (.slice aq nq cq)), .int .u8 (b.toNat : Int)] w (Ret2 (begS 0, []) w0 w) := by
  have HRS := Lib.hid hr
  have hnu : nu = p.utf.length := by
    obtain ⟨A9, c9, e9, -⟩ := hr.1
    cases e9
    rfl
  clear hr
  have HW0 := Lib.hid hw; clear hw
  obtain ⟨st, utf, pr, fi, pp, it, tx, bad⟩ := p
  dsimp only at *
  have hbv : (b.toNat : Int) = 26 := by omega
  rw [hbv]
  have c0 : (st == 0) = false := by simp; omega
  clear hnu hs
  have HV1 := Lib.hid hv1
  have HV2 := Lib.hid hv2
  clear hv1 hv2
  clear hbv
  clear hb
  unfold cS
  dsimp only at *
  have HX0 := Lib.hid ((Box.new w #[.int .i64 st, .slice au nu cu, .int .u8 (pr.toNat : Int), .int .u8 (fi.toNat : Int), .slice aq nq cq, .string it, .string tx, .bool bad] 25).alloc (.cells #[.int .i64 0, .slice none 0 0, .int .u8 0, .int .u8 0, .slice none 0 0, .string ⟨#[]⟩, .string ⟨#[]⟩, .bool false] 25))
  have hx1 := Box.new (w.alloc (.cells #[.int .i64 st, .slice au nu cu, .int .u8 (pr.toNat : Int), .int .u8 (fi.toNat : Int), .slice aq nq cq, .string it, .string tx, .bool bad] 25)) #[.int .i64 0, .slice none 0 0, .int .u8 0, .int .u8 0, .slice none 0 0, .string ⟨#[]⟩, .string ⟨#[]⟩, .bool false] 25
  rw [World.size_alloc] at hx1
  have HX1 := Lib.hid hx1
  have HB1 := Lib.hid (show Below w.heap.size w ((w.alloc (.cells #[.int .i64 st, .slice au nu cu, .int .u8 (pr.toNat : Int), .int .u8 (fi.toNat : Int), .slice aq nq cq, .string it, .string tx, .bool bad] 25)).alloc (.cells #[.int .i64 0, .slice none 0 0, .int .u8 0, .int .u8 0, .slice none 0 0, .string ⟨#[]⟩, .string ⟨#[]⟩, .bool false] 25)) from up (below_box _ _) (below_box _ _))
  clear hx1
  have a0 := HX0.out.cell 0 _ rfl
  have a1 := HX0.out.cell 1 _ rfl
  have a2 := HX0.out.cell 2 _ rfl
  have a3 := HX0.out.cell 3 _ rfl
  have a4 := HX0.out.cell 4 _ rfl
  have a5 := HX0.out.cell 5 _ rfl
  have a6 := HX0.out.cell 6 _ rfl
  have a7 := HX0.out.cell 7 _ rfl
  have g0 := HX0.out.free 0 (by show 0 < 8; decide)
  obtain ⟨z0, y0, z1, y1, z2, y2, z3, y3, z4, y4, z5, y5, z6, y6, z7, y7⟩ := cf8 HX1.out
  have l0 := HX0.out.1
  have l1 := HX1.out.1
  go_enter Tryz.func31, Tryz.ntmps31
  go_wp2_with (first
    | (go_at_call 43; refine (has_any _ _ 3 _ [6, 11, 13] _ rfl (rd_at _ _ [6, 11, 13] _ _ rfl (by simp)) (by decide)).mono ?_; rw [HV2.out]; rintro e wn ⟨rfl, hbn⟩; have hk := up (below_box _ _) hbn; have hx0 := HX0.out.keep hk; have hx1 := HX1.out.keep hk; have hbb := up HB1.out hk; clear HX0 HX1 HB1; have HX0 := Lib.hid hx0; have HX1 := Lib.hid hx1; have HB1 := Lib.hid hbb; clear hx0 hx1 hbb hk hbn; clear a0 z0 y0 a1 z1 y1 a2 z2 y2 a3 z3 y3 a4 z4 y4 a5 z5 y5 a6 z6 y6 a7 z7 y7 g0 l0 l1; have a0 := HX0.out.cell 0 _ rfl; have a1 := HX0.out.cell 1 _ rfl; have a2 := HX0.out.cell 2 _ rfl; have a3 := HX0.out.cell 3 _ rfl; have a4 := HX0.out.cell 4 _ rfl; have a5 := HX0.out.cell 5 _ rfl; have a6 := HX0.out.cell 6 _ rfl; have a7 := HX0.out.cell 7 _ rfl; have g0 := HX0.out.free 0 (by show 0 < 8; decide); obtain ⟨z0, y0, z1, y1, z2, y2, z3, y3, z4, y4, z5, y5, z6, y6, z7, y7⟩ := cf8 HX1.out; have l0 := HX0.out.1; have l1 := HX1.out.1)
    | (go_at_call 43; refine (has_any _ _ 3 _ [7, 12, 14] _ rfl (rd_at _ _ [7, 12, 14] _ _ rfl (by simp)) (by decide)).mono ?_; rw [HV1.out]; rintro e wn ⟨rfl, hbn⟩; have hk := up (below_box _ _) hbn; have hx0 := HX0.out.keep hk; have hx1 := HX1.out.keep hk; have hbb := up HB1.out hk; clear HX0 HX1 HB1; have HX0 := Lib.hid hx0; have HX1 := Lib.hid hx1; have HB1 := Lib.hid hbb; clear hx0 hx1 hbb hk hbn; clear a0 z0 y0 a1 z1 y1 a2 z2 y2 a3 z3 y3 a4 z4 y4 a5 z5 y5 a6 z6 y6 a7 z7 y7 g0 l0 l1; have a0 := HX0.out.cell 0 _ rfl; have a1 := HX0.out.cell 1 _ rfl; have a2 := HX0.out.cell 2 _ rfl; have a3 := HX0.out.cell 3 _ rfl; have a4 := HX0.out.cell 4 _ rfl; have a5 := HX0.out.cell 5 _ rfl; have a6 := HX0.out.cell 6 _ rfl; have a7 := HX0.out.cell 7 _ rfl; have g0 := HX0.out.free 0 (by show 0 < 8; decide); obtain ⟨z0, y0, z1, y1, z2, y2, z3, y3, z4, y4, z5, y5, z6, y6, z7, y7⟩ := cf8 HX1.out; have l0 := HX0.out.1; have l1 := HX1.out.1)
    | (go_at_call 52; refine (begin_any 0 _).mono ?_; rintro e w3 ⟨rfl, hb3⟩; have hx1 := HX1.out.keep hb3; have hbb := up HB1.out hb3; have hl9 := HX1.out.1; clear HX1; have HX1 := Lib.hid hx1; have HB3 := Lib.hid hbb; clear hx1 hbb; clear a0 z0 y0 a1 z1 y1 a2 z2 y2 a3 z3 y3 a4 z4 y4 a5 z5 y5 a6 z6 y6 a7 z7 y7 g0 l0 l1; obtain ⟨z0, y0, z1, y1, z2, y2, z3, y3, z4, y4, z5, y5, z6, y6, z7, y7⟩ := cf8 HX1.out; have l1 := HX1.out.1))
  refine bodyPost_ret (ret_cell rfl _ _ ⟨w.heap.size + 1, 0, none⟩ _ rfl (load_par8 _ _ _ _ _ _ _ _ _ _ (box_set8 _ _ _ _ _ _ _ _ HX1.out))) rfl ?_
  exact ⟨_, _, _, rfl, fun W hW => ⟨RS.nil _ _ rfl rfl, RV.nil _⟩, below_set8 _ _ _ _ _ _ _ _ _ HB3.out (by omega)⟩
set_option maxRecDepth 100000 in
set_option maxHeartbeats 8000000 in
theorem one_27_0 (p : PS) (b : UInt8) (au aq : Option Addr) (nu cu nq cq : Nat) (w0 w : World) (hr : RS w0 (.slice au nu cu) (.slice aq nq cq) p) (hw : Pre w0 w) (hs : p.st = 0) (hu : p.utf = []) (hb : b.toNat = 27) :
    Calls Tryz.prog 31 #[.agg (cS p (.slice au nu cu) (.slice aq nq cq)), .int .u8 (b.toNat : Int)] w (Ret2 (begS 1, []) w0 w) := by
  have HRS := Lib.hid hr
  have hnu : nu = p.utf.length := by
    obtain ⟨A9, c9, e9, -⟩ := hr.1
    cases e9
    rfl
  clear hr
  have HW0 := Lib.hid hw; clear hw
  obtain ⟨st, utf, pr, fi, pp, it, tx, bad⟩ := p
  dsimp only at *
  subst hs
  have hbv : (b.toNat : Int) = 27 := by omega
  rw [hbv]
  obtain rfl : nu = 0 := by rw [hnu, hu]; rfl
  clear hnu
  have HV1 := Lib.hid (show hasB 0 [7, 12, 14] = false by decide)
  have HV2 := Lib.hid (show hasB 0 [6, 11, 13] = false by decide)
  clear hbv
  clear hu hb
  unfold cS
  dsimp only at *
  have HX0 := Lib.hid ((Box.new w #[.int .i64 0, .slice au 0 cu, .int .u8 (pr.toNat : Int), .int .u8 (fi.toNat : Int), .slice aq nq cq, .string it, .string tx, .bool bad] 25).alloc (.cells #[.int .i64 0, .slice none 0 0, .int .u8 0, .int .u8 0, .slice none 0 0, .string ⟨#[]⟩, .string ⟨#[]⟩, .bool false] 25))
  have hx1 := Box.new (w.alloc (.cells #[.int .i64 0, .slice au 0 cu, .int .u8 (pr.toNat : Int), .int .u8 (fi.toNat : Int), .slice aq nq cq, .string it, .string tx, .bool bad] 25)) #[.int .i64 0, .slice none 0 0, .int .u8 0, .int .u8 0, .slice none 0 0, .string ⟨#[]⟩, .string ⟨#[]⟩, .bool false] 25
  rw [World.size_alloc] at hx1
  have HX1 := Lib.hid hx1
  have HB1 := Lib.hid (show Below w.heap.size w ((w.alloc (.cells #[.int .i64 0, .slice au 0 cu, .int .u8 (pr.toNat : Int), .int .u8 (fi.toNat : Int), .slice aq nq cq, .string it, .string tx, .bool bad] 25)).alloc (.cells #[.int .i64 0, .slice none 0 0, .int .u8 0, .int .u8 0, .slice none 0 0, .string ⟨#[]⟩, .string ⟨#[]⟩, .bool false] 25)) from up (below_box _ _) (below_box _ _))
  clear hx1
  have a0 := HX0.out.cell 0 _ rfl
  have a1 := HX0.out.cell 1 _ rfl
  have a2 := HX0.out.cell 2 _ rfl
  have a3 := HX0.out.cell 3 _ rfl
  have a4 := HX0.out.cell 4 _ rfl
  have a5 := HX0.out.cell 5 _ rfl
  have a6 := HX0.out.cell 6 _ rfl
  have a7 := HX0.out.cell 7 _ rfl
  have g0 := HX0.out.free 0 (by show 0 < 8; decide)
  obtain ⟨z0, y0, z1, y1, z2, y2, z3, y3, z4, y4, z5, y5, z6, y6, z7, y7⟩ := cf8 HX1.out
  have l0 := HX0.out.1
  have l1 := HX1.out.1
  go_enter Tryz.func31, Tryz.ntmps31
  go_wp2_with (first
    | (go_at_call 43; refine (has_any _ _ 3 _ [6, 11, 13] _ rfl (rd_at _ _ [6, 11, 13] _ _ rfl (by simp)) (by decide)).mono ?_; rw [HV2.out]; rintro e wn ⟨rfl, hbn⟩; have hk := up (below_box _ _) hbn; have hx0 := HX0.out.keep hk; have hx1 := HX1.out.keep hk; have hbb := up HB1.out hk; clear HX0 HX1 HB1; have HX0 := Lib.hid hx0; have HX1 := Lib.hid hx1; have HB1 := Lib.hid hbb; clear hx0 hx1 hbb hk hbn; clear a0 z0 y0 a1 z1 y1 a2 z2 y2 a3 z3 y3 a4 z4 y4 a5 z5 y5 a6 z6 y6 a7 z7 y7 g0 l0 l1; have a0 := HX0.out.cell 0 _ rfl; have a1 := HX0.out.cell 1 _ rfl; have a2 := HX0.out.cell 2 _ rfl; have a3 := HX0.out.cell 3 _ rfl; have a4 := HX0.out.cell 4 _ rfl; have a5 := HX0.out.cell 5 _ rfl; have a6 := HX0.out.cell 6 _ rfl; have a7 := HX0.out.cell 7 _ rfl; have g0 := HX0.out.free 0 (by show 0 < 8; decide); obtain ⟨z0, y0, z1, y1, z2, y2, z3, y3, z4, y4, z5, y5, z6, y6, z7, y7⟩ := cf8 HX1.out; have l0 := HX0.out.1; have l1 := HX1.out.1)
    | (go_at_call 43; refine (has_any _ _ 3 _ [7, 12, 14] _ rfl (rd_at _ _ [7, 12, 14] _ _ rfl (by simp)) (by decide)).mono ?_; rw [HV1.out]; rintro e wn ⟨rfl, hbn⟩; have hk := up (below_box _ _) hbn; have hx0 := HX0.out.keep hk; have hx1 := HX1.out.keep hk; have hbb := up HB1.out hk; clear HX0 HX1 HB1; have HX0 := Lib.hid hx0; have HX1 := Lib.hid hx1; have HB1 := Lib.hid hbb; clear hx0 hx1 hbb hk hbn; clear a0 z0 y0 a1 z1 y1 a2 z2 y2 a3 z3 y3 a4 z4 y4 a5 z5 y5 a6 z6 y6 a7 z7 y7 g0 l0 l1; have a0 := HX0.out.cell 0 _ rfl; have a1 := HX0.out.cell 1 _ rfl; have a2 := HX0.out.cell 2 _ rfl; have a3 := HX0.out.cell 3 _ rfl; have a4 := HX0.out.cell 4 _ rfl; have a5 := HX0.out.cell 5 _ rfl; have a6 := HX0.out.cell 6 _ rfl; have a7 := HX0.out.cell 7 _ rfl; have g0 := HX0.out.free 0 (by show 0 < 8; decide); obtain ⟨z0, y0, z1, y1, z2, y2, z3, y3, z4, y4, z5, y5, z6, y6, z7, y7⟩ := cf8 HX1.out; have l0 := HX0.out.1; have l1 := HX1.out.1)
    | (go_at_call 52; refine (begin_any 1 _).mono ?_; rintro e w3 ⟨rfl, hb3⟩; have hx1 := HX1.out.keep hb3; have hbb := up HB1.out hb3; have hl9 := HX1.out.1; clear HX1; have HX1 := Lib.hid hx1; have HB3 := Lib.hid hbb; clear hx1 hbb; clear a0 z0 y0 a1 z1 y1 a2 z2 y2 a3 z3 y3 a4 z4 y4 a5 z5 y5 a6 z6 y6 a7 z7 y7 g0 l0 l1; obtain ⟨z0, y0, z1, y1, z2, y2, z3, y3, z4, y4, z5, y5, z6, y6, z7, y7⟩ := cf8 HX1.out; have l1 := HX1.out.1))
  refine bodyPost_ret (ret_cell rfl _ _ ⟨w.heap.size + 1, 0, none⟩ _ rfl (load_par8 _ _ _ _ _ _ _ _ _ _ (box_set8 _ _ _ _ _ _ _ _ HX1.out))) rfl ?_
  exact ⟨_, _, _, rfl, fun W hW => ⟨RS.nil _ _ rfl rfl, RV.nil _⟩, below_set8 _ _ _ _ _ _ _ _ _ HB3.out (by omega)⟩
set_option maxRecDepth 100000 in
set_option maxHeartbeats 8000000 in
theorem one_27_n (p : PS) (b : UInt8) (au aq : Option Addr) (nu cu nq cq : Nat) (w0 w : World) (hr : RS w0 (.slice au nu cu) (.slice aq nq cq) p) (hw : Pre w0 w) {v1 : Bool} (hs : p.st ≠ 0) (hv1 : hasB p.st [7, 12, 14] = v1) (hv2 : hasB p.st [6, 11, 13] = false) (hb : b.toNat = 27) :
    Calls Tryz.prog 31 #[.agg (cS p (.slice au nu cu) (.slice aq nq cq)), .int .u8 (b.toNat : Int)] w (Ret2 (begS 1, []) w0 w) := by
  have HRS := Lib.hid hr
  have hnu : nu = p.utf.length := by
    obtain ⟨A9, c9, e9, -⟩ := hr.1
    cases e9
    rfl
  clear hr
  have HW0 := Lib.hid hw; clear hw
  obtain ⟨st, utf, pr, fi, pp, it, tx, bad⟩ := p
  dsimp only at *
  have hbv : (b.toNat : Int) = 27 := by omega
  rw [hbv]
  have c0 : (st == 0) = false := by simp; omega
  clear hnu hs
  have HV1 := Lib.hid hv1
  have HV2 := Lib.hid hv2
  clear hv1 hv2
  clear hbv
  clear hb
  unfold cS
  dsimp only at *
  have HX0 := Lib.hid ((Box.new w #[.int .i64 st, .slice au nu cu, .int .u8 (pr.toNat : Int), .int .u8 (fi.toNat : Int), .slice aq nq cq, .string it, .string tx, .bool bad] 25).alloc (.cells #[.int .i64 0, .slice none 0 0, .int .u8 0, .int .u8 0, .slice none 0 0, .string ⟨#[]⟩, .string ⟨#[]⟩, .bool false] 25))
  have hx1 := Box.new (w.alloc (.cells #[.int .i64 st, .slice au nu cu, .int .u8 (pr.toNat : Int), .int .u8 (fi.toNat : Int), .slice aq nq cq, .string it, .string tx, .bool bad] 25)) #[.int .i64 0, .slice none 0 0, .int .u8 0, .int .u8 0, .slice none 0 0, .string ⟨#[]⟩, .string ⟨#[]⟩, .bool false] 25
  rw [World.size_alloc] at hx1
  have HX1 := Lib.hid hx1
  have HB1 := Lib.hid (show Below w.heap.size w ((w.alloc (.cells #[.int .i64 st, .slice au nu cu, .int .u8 (pr.toNat : Int), .int .u8 (fi.toNat : Int), .slice aq nq cq, .string it, .string tx, .bool bad] 25)).alloc (.cells #[.int .i64 0, .slice none 0 0, .int .u8 0, .int .u8 0, .slice none 0 0, .string ⟨#[]⟩, .string ⟨#[]⟩, .bool false] 25)) from up (below_box _ _) (below_box _ _))
  clear hx1
  have a0 := HX0.out.cell 0 _ rfl
  have a1 := HX0.out.cell 1 _ rfl
  have a2 := HX0.out.cell 2 _ rfl
  have a3 := HX0.out.cell 3 _ rfl
  have a4 := HX0.out.cell 4 _ rfl
  have a5 := HX0.out.cell 5 _ rfl
  have a6 := HX0.out.cell 6 _ rfl
  have a7 := HX0.out.cell 7 _ rfl
  have g0 := HX0.out.free 0 (by show 0 < 8; decide)
  obtain ⟨z0, y0, z1, y1, z2, y2, z3, y3, z4, y4, z5, y5, z6, y6, z7, y7⟩ := cf8 HX1.out
  have l0 := HX0.out.1
  have l1 := HX1.out.1
  go_enter Tryz.func31, Tryz.ntmps31
  go_wp2_with (first
    | (go_at_call 43; refine (has_any _ _ 3 _ [6, 11, 13] _ rfl (rd_at _ _ [6, 11, 13] _ _ rfl (by simp)) (by decide)).mono ?_; rw [HV2.out]; rintro e wn ⟨rfl, hbn⟩; have hk := up (below_box _ _) hbn; have hx0 := HX0.out.keep hk; have hx1 := HX1.out.keep hk; have hbb := up HB1.out hk; clear HX0 HX1 HB1; have HX0 := Lib.hid hx0; have HX1 := Lib.hid hx1; have HB1 := Lib.hid hbb; clear hx0 hx1 hbb hk hbn; clear a0 z0 y0 a1 z1 y1 a2 z2 y2 a3 z3 y3 a4 z4 y4 a5 z5 y5 a6 z6 y6 a7 z7 y7 g0 l0 l1; have a0 := HX0.out.cell 0 _ rfl; have a1 := HX0.out.cell 1 _ rfl; have a2 := HX0.out.cell 2 _ rfl; have a3 := HX0.out.cell 3 _ rfl; have a4 := HX0.out.cell 4 _ rfl; have a5 := HX0.out.cell 5 _ rfl; have a6 := HX0.out.cell 6 _ rfl; have a7 := HX0.out.cell 7 _ rfl; have g0 := HX0.out.free 0 (by show 0 < 8; decide); obtain ⟨z0, y0, z1, y1, z2, y2, z3, y3, z4, y4, z5, y5, z6, y6, z7, y7⟩ := cf8 HX1.out; have l0 := HX0.out.1; have l1 := HX1.out.1)
    | (go_at_call 43; refine (has_any _ _ 3 _ [7, 12, 14] _ rfl (rd_at _ _ [7, 12, 14] _ _ rfl (by simp)) (by decide)).mono ?_; rw [HV1.out]; rintro e wn ⟨rfl, hbn⟩; have hk := up (below_box _ _) hbn; have hx0 := HX0.out.keep hk; have hx1 := HX1.out.keep hk; have hbb := up HB1.out hk; clear HX0 HX1 HB1; have HX0 := Lib.hid hx0; have HX1 := Lib.hid hx1; have HB1 := Lib.hid hbb; clear hx0 hx1 hbb hk hbn; clear a0 z0 y0 a1 z1 y1 a2 z2 y2 a3 z3 y3 a4 z4 y4 a5 z5 y5 a6 z6 y6 a7 z7 y7 g0 l0 l1; have a0 := HX0.out.cell 0 _ rfl; have a1 := HX0.out.cell 1 _ rfl; have a2 := HX0.out.cell 2 _ rfl; have a3 := HX0.out.cell 3 _ rfl; have a4 := HX0.out.cell 4 _ rfl; have a5 := HX0.out.cell 5 _ rfl; have a6 := HX0.out.cell 6 _ rfl; have a7 := HX0.out.cell 7 _ rfl; have g0 := HX0.out.free 0 (by show 0 < 8; decide); obtain ⟨z0, y0, z1, y1, z2, y2, z3, y3, z4, y4, z5, y5, z6, y6, z7, y7⟩ := cf8 HX1.out; have l0 := HX0.out.1; have l1 := HX1.out.1)
    | (go_at_call 52; refine (begin_any 1 _).mono ?_; rintro e w3 ⟨rfl, hb3⟩; have hx1 := HX1.out.keep hb3; have hbb := up HB1.out hb3; have hl9 := HX1.out.1; clear HX1; have HX1 := Lib.hid hx1; have HB3 := Lib.hid hbb; clear hx1 hbb; clear a0 z0 y0 a1 z1 y1 a2 z2 y2 a3 z3 y3 a4 z4 y4 a5 z5 y5 a6 z6 y6 a7 z7 y7 g0 l0 l1; obtain ⟨z0, y0, z1, y1, z2, y2, z3, y3, z4, y4, z5, y5, z6, y6, z7, y7⟩ := cf8 HX1.out; have l1 := HX1.out.1))
  refine bodyPost_ret (ret_cell rfl _ _ ⟨w.heap.size + 1, 0, none⟩ _ rfl (load_par8 _ _ _ _ _ _ _ _ _ _ (box_set8 _ _ _ _ _ _ _ _ HX1.out))) rfl ?_
  exact ⟨_, _, _, rfl, fun W hW => ⟨RS.nil _ _ rfl rfl, RV.nil _⟩, below_set8 _ _ _ _ _ _ _ _ _ HB3.out (by omega)⟩
set_option maxRecDepth 100000 in
set_option maxHeartbeats 8000000 in
theorem one_27_y (p : PS) (b : UInt8) (au aq : Option Addr) (nu cu nq cq : Nat) (w0 w : World) (hr : RS w0 (.slice au nu cu) (.slice aq nq cq) p) (hw : Pre w0 w) {v1 : Bool} (hs : p.st ≠ 0) (h15 : p.st < 1000) (hm1 : -1 ≤ p.st) (hv1 : hasB p.st [7, 12, 14] = v1) (hv2 : hasB p.st [6, 11, 13] = true) (hb : b.toNat = 27) :
    Calls Tryz.prog 31 #[.agg (cS p (.slice au nu cu) (.slice aq nq cq)), .int .u8 (b.toNat : Int)] w (Ret2 ({ p with st := p.st + 1 }, []) w0 w) := by
  have HRS := Lib.hid hr
  have hnu : nu = p.utf.length := by
    obtain ⟨A9, c9, e9, -⟩ := hr.1
    cases e9
    rfl
  clear hr
  have HW0 := Lib.hid hw; clear hw
  obtain ⟨st, utf, pr, fi, pp, it, tx, bad⟩ := p
  dsimp only at *
  have hbv : (b.toNat : Int) = 27 := by omega
  rw [hbv]
  have c0 : (st == 0) = false := by simp; omega
  clear hnu hs
  have HV1 := Lib.hid hv1
  have HV2 := Lib.hid hv2
  clear hv1 hv2
  clear hbv
  clear hb
  unfold cS
  dsimp only at *
  have HX0 := Lib.hid ((Box.new w #[.int .i64 st, .slice au nu cu, .int .u8 (pr.toNat : Int), .int .u8 (fi.toNat : Int), .slice aq nq cq, .string it, .string tx, .bool bad] 25).alloc (.cells #[.int .i64 0, .slice none 0 0, .int .u8 0, .int .u8 0, .slice none 0 0, .string ⟨#[]⟩, .string ⟨#[]⟩, .bool false] 25))
  have hx1 := Box.new (w.alloc (.cells #[.int .i64 st, .slice au nu cu, .int .u8 (pr.toNat : Int), .int .u8 (fi.toNat : Int), .slice aq nq cq, .string it, .string tx, .bool bad] 25)) #[.int .i64 0, .slice none 0 0, .int .u8 0, .int .u8 0, .slice none 0 0, .string ⟨#[]⟩, .string ⟨#[]⟩, .bool false] 25
  rw [World.size_alloc] at hx1
  have HX1 := Lib.hid hx1
  have HB1 := Lib.hid (show Below w.heap.size w ((w.alloc (.cells #[.int .i64 st, .slice au nu cu, .int .u8 (pr.toNat : Int), .int .u8 (fi.toNat : Int), .slice aq nq cq, .string it, .string tx, .bool bad] 25)).alloc (.cells #[.int .i64 0, .slice none 0 0, .int .u8 0, .int .u8 0, .slice none 0 0, .string ⟨#[]⟩, .string ⟨#[]⟩, .bool false] 25)) from up (below_box _ _) (below_box _ _))
  clear hx1
  have a0 := HX0.out.cell 0 _ rfl
  have a1 := HX0.out.cell 1 _ rfl
  have a2 := HX0.out.cell 2 _ rfl
  have a3 := HX0.out.cell 3 _ rfl
  have a4 := HX0.out.cell 4 _ rfl
  have a5 := HX0.out.cell 5 _ rfl
  have a6 := HX0.out.cell 6 _ rfl
  have a7 := HX0.out.cell 7 _ rfl
  have g0 := HX0.out.free 0 (by show 0 < 8; decide)
  obtain ⟨z0, y0, z1, y1, z2, y2, z3, y3, z4, y4, z5, y5, z6, y6, z7, y7⟩ := cf8 HX1.out
  have l0 := HX0.out.1
  have l1 := HX1.out.1
  go_enter Tryz.func31, Tryz.ntmps31
  go_wp2_with (first
    | (go_at_call 43; refine (has_any _ _ 3 _ [6, 11, 13] _ rfl (rd_at _ _ [6, 11, 13] _ _ rfl (by simp)) (by decide)).mono ?_; rw [HV2.out]; rintro e wn ⟨rfl, hbn⟩; have hk := up (below_box _ _) hbn; have hx0 := HX0.out.keep hk; have hx1 := HX1.out.keep hk; have hbb := up HB1.out hk; clear HX0 HX1 HB1; have HX0 := Lib.hid hx0; have HX1 := Lib.hid hx1; have HB1 := Lib.hid hbb; clear hx0 hx1 hbb hk hbn; clear a0 z0 y0 a1 z1 y1 a2 z2 y2 a3 z3 y3 a4 z4 y4 a5 z5 y5 a6 z6 y6 a7 z7 y7 g0 l0 l1; have a0 := HX0.out.cell 0 _ rfl; have a1 := HX0.out.cell 1 _ rfl; have a2 := HX0.out.cell 2 _ rfl; have a3 := HX0.out.cell 3 _ rfl; have a4 := HX0.out.cell 4 _ rfl; have a5 := HX0.out.cell 5 _ rfl; have a6 := HX0.out.cell 6 _ rfl; have a7 := HX0.out.cell 7 _ rfl; have g0 := HX0.out.free 0 (by show 0 < 8; decide); obtain ⟨z0, y0, z1, y1, z2, y2, z3, y3, z4, y4, z5, y5, z6, y6, z7, y7⟩ := cf8 HX1.out; have l0 := HX0.out.1; have l1 := HX1.out.1)
    | (go_at_call 43; refine (has_any _ _ 3 _ [7, 12, 14] _ rfl (rd_at _ _ [7, 12, 14] _ _ rfl (by simp)) (by decide)).mono ?_; rw [HV1.out]; rintro e wn ⟨rfl, hbn⟩; have hk := up (below_box _ _) hbn; have hx0 := HX0.out.keep hk; have hx1 := HX1.out.keep hk; have hbb := up HB1.out hk; clear HX0 HX1 HB1; have HX0 := Lib.hid hx0; have HX1 := Lib.hid hx1; have HB1 := Lib.hid hbb; clear hx0 hx1 hbb hk hbn; clear a0 z0 y0 a1 z1 y1 a2 z2 y2 a3 z3 y3 a4 z4 y4 a5 z5 y5 a6 z6 y6 a7 z7 y7 g0 l0 l1; have a0 := HX0.out.cell 0 _ rfl; have a1 := HX0.out.cell 1 _ rfl; have a2 := HX0.out.cell 2 _ rfl; have a3 := HX0.out.cell 3 _ rfl; have a4 := HX0.out.cell 4 _ rfl; have a5 := HX0.out.cell 5 _ rfl; have a6 := HX0.out.cell 6 _ rfl; have a7 := HX0.out.cell 7 _ rfl; have g0 := HX0.out.free 0 (by show 0 < 8; decide); obtain ⟨z0, y0, z1, y1, z2, y2, z3, y3, z4, y4, z5, y5, z6, y6, z7, y7⟩ := cf8 HX1.out; have l0 := HX0.out.1; have l1 := HX1.out.1))
  refine bodyPost_ret (ret_cell rfl _ _ ⟨w.heap.size + 1, 0, none⟩ _ rfl (load_par8 _ _ _ _ _ _ _ _ _ _ (box_set8 _ _ _ _ _ _ _ _ (HX1.out.grown (grown_set wn w.heap.size 0 _) (show some (w.heap.size + 1) ≠ some w.heap.size by simp))))) rfl ?_
  exact ⟨_, _, _, rfl, fun W hW => ⟨HRS.out.keepP hW.1, RV.nil _⟩, below_set8 _ _ _ _ _ _ _ _ _ (HB1.out.setCell (Nat.le_refl _) _) (by omega)⟩
set_option maxRecDepth 100000 in
set_option maxHeartbeats 8000000 in
theorem one_127_0 (p : PS) (b : UInt8) (au aq : Option Addr) (nu cu nq cq : Nat) (w0 w : World) (hr : RS w0 (.slice au nu cu) (.slice aq nq cq) p) (hw : Pre w0 w) (hs : p.st = 0) (hu : p.utf = []) (hb : b.toNat = 127) :
    Calls Tryz.prog 31 #[.agg (cS p (.slice au nu cu) (.slice aq nq cq)), .int .u8 (b.toNat : Int)] w (Ret2 (p, []) w0 w) := by
  have HRS := Lib.hid hr
  have hnu : nu = p.utf.length := by
    obtain ⟨A9, c9, e9, -⟩ := hr.1
    cases e9
    rfl
  clear hr
  have HW0 := Lib.hid hw; clear hw
  obtain ⟨st, utf, pr, fi, pp, it, tx, bad⟩ := p
  dsimp only at *
  subst hs
  have hbv : (b.toNat : Int) = 127 := by omega
  rw [hbv]
  obtain rfl : nu = 0 := by rw [hnu, hu]; rfl
  clear hnu
  have HV1 := Lib.hid (show hasB 0 [7, 12, 14] = false by decide)
  have HV2 := Lib.hid (show hasB 0 [6, 11, 13] = false by decide)
  clear hbv
  clear hu hb
  unfold cS
  dsimp only at *
  have HX0 := Lib.hid ((Box.new w #[.int .i64 0, .slice au 0 cu, .int .u8 (pr.toNat : Int), .int .u8 (fi.toNat : Int), .slice aq nq cq, .string it, .string tx, .bool bad] 25).alloc (.cells #[.int .i64 0, .slice none 0 0, .int .u8 0, .int .u8 0, .slice none 0 0, .string ⟨#[]⟩, .string ⟨#[]⟩, .bool false] 25))
  have hx1 := Box.new (w.alloc (.cells #[.int .i64 0, .slice au 0 cu, .int .u8 (pr.toNat : Int), .int .u8 (fi.toNat : Int), .slice aq nq cq, .string it, .string tx, .bool bad] 25)) #[.int .i64 0, .slice none 0 0, .int .u8 0, .int .u8 0, .slice none 0 0, .string ⟨#[]⟩, .string ⟨#[]⟩, .bool false] 25
  rw [World.size_alloc] at hx1
  have HX1 := Lib.hid hx1
  have HB1 := Lib.hid (show Below w.heap.size w ((w.alloc (.cells #[.int .i64 0, .slice au 0 cu, .int .u8 (pr.toNat : Int), .int .u8 (fi.toNat : Int), .slice aq nq cq, .string it, .string tx, .bool bad] 25)).alloc (.cells #[.int .i64 0, .slice none 0 0, .int .u8 0, .int .u8 0, .slice none 0 0, .string ⟨#[]⟩, .string ⟨#[]⟩, .bool false] 25)) from up (below_box _ _) (below_box _ _))
  clear hx1
  have a0 := HX0.out.cell 0 _ rfl
  have a1 := HX0.out.cell 1 _ rfl
  have a2 := HX0.out.cell 2 _ rfl
  have a3 := HX0.out.cell 3 _ rfl
  have a4 := HX0.out.cell 4 _ rfl
  have a5 := HX0.out.cell 5 _ rfl
  have a6 := HX0.out.cell 6 _ rfl
  have a7 := HX0.out.cell 7 _ rfl
  have g0 := HX0.out.free 0 (by show 0 < 8; decide)
  obtain ⟨z0, y0, z1, y1, z2, y2, z3, y3, z4, y4, z5, y5, z6, y6, z7, y7⟩ := cf8 HX1.out
  have l0 := HX0.out.1
  have l1 := HX1.out.1
  go_enter Tryz.func31, Tryz.ntmps31
  go_wp2_with (first
    | (go_at_call 43; refine (has_any _ _ 3 _ [6, 11, 13] _ rfl (rd_at _ _ [6, 11, 13] _ _ rfl (by simp)) (by decide)).mono ?_; rw [HV2.out]; rintro e wn ⟨rfl, hbn⟩; have hk := up (below_box _ _) hbn; have hx0 := HX0.out.keep hk; have hx1 := HX1.out.keep hk; have hbb := up HB1.out hk; clear HX0 HX1 HB1; have HX0 := Lib.hid hx0; have HX1 := Lib.hid hx1; have HB1 := Lib.hid hbb; clear hx0 hx1 hbb hk hbn; clear a0 z0 y0 a1 z1 y1 a2 z2 y2 a3 z3 y3 a4 z4 y4 a5 z5 y5 a6 z6 y6 a7 z7 y7 g0 l0 l1; have a0 := HX0.out.cell 0 _ rfl; have a1 := HX0.out.cell 1 _ rfl; have a2 := HX0.out.cell 2 _ rfl; have a3 := HX0.out.cell 3 _ rfl; have a4 := HX0.out.cell 4 _ rfl; have a5 := HX0.out.cell 5 _ rfl; have a6 := HX0.out.cell 6 _ rfl; have a7 := HX0.out.cell 7 _ rfl; have g0 := HX0.out.free 0 (by show 0 < 8; decide); obtain ⟨z0, y0, z1, y1, z2, y2, z3, y3, z4, y4, z5, y5, z6, y6, z7, y7⟩ := cf8 HX1.out; have l0 := HX0.out.1; have l1 := HX1.out.1)
    | (go_at_call 43; refine (has_any _ _ 3 _ [7, 12, 14] _ rfl (rd_at _ _ [7, 12, 14] _ _ rfl (by simp)) (by decide)).mono ?_; rw [HV1.out]; rintro e wn ⟨rfl, hbn⟩; have hk := up (below_box _ _) hbn; have hx0 := HX0.out.keep hk; have hx1 := HX1.out.keep hk; have hbb := up HB1.out hk; clear HX0 HX1 HB1; have HX0 := Lib.hid hx0; have HX1 := Lib.hid hx1; have HB1 := Lib.hid hbb; clear hx0 hx1 hbb hk hbn; clear a0 z0 y0 a1 z1 y1 a2 z2 y2 a3 z3 y3 a4 z4 y4 a5 z5 y5 a6 z6 y6 a7 z7 y7 g0 l0 l1; have a0 := HX0.out.cell 0 _ rfl; have a1 := HX0.out.cell 1 _ rfl; have a2 := HX0.out.cell 2 _ rfl; have a3 := HX0.out.cell 3 _ rfl; have a4 := HX0.out.cell 4 _ rfl; have a5 := HX0.out.cell 5 _ rfl; have a6 := HX0.out.cell 6 _ rfl; have a7 := HX0.out.cell 7 _ rfl; have g0 := HX0.out.free 0 (by show 0 < 8; decide); obtain ⟨z0, y0, z1, y1, z2, y2, z3, y3, z4, y4, z5, y5, z6, y6, z7, y7⟩ := cf8 HX1.out; have l0 := HX0.out.1; have l1 := HX1.out.1))
  refine bodyPost_ret (ret_cell rfl _ _ ⟨w.heap.size + 1, 0, none⟩ _ rfl (load_par8 _ _ _ _ _ _ _ _ _ _ (box_set8 _ _ _ _ _ _ _ _ HX1.out))) rfl ?_
  exact ⟨_, _, _, rfl, fun W hW => ⟨HRS.out.keepP hW.1, RV.nil _⟩, below_set8 _ _ _ _ _ _ _ _ _ HB1.out (by omega)⟩
set_option maxRecDepth 100000 in
set_option maxHeartbeats 8000000 in
theorem one_127_n (p : PS) (b : UInt8) (au aq : Option Addr) (nu cu nq cq : Nat) (w0 w : World) (hr : RS w0 (.slice au nu cu) (.slice aq nq cq) p) (hw : Pre w0 w) (hs : p.st ≠ 0) (hv1 : hasB p.st [7, 12, 14] = false) (hv2 : hasB p.st [6, 11, 13] = false) (hb : b.toNat = 127) :
    Calls Tryz.prog 31 #[.agg (cS p (.slice au nu cu) (.slice aq nq cq)), .int .u8 (b.toNat : Int)] w (Ret2 (p, []) w0 w) := by
  have HRS := Lib.hid hr
  have hnu : nu = p.utf.length := by
    obtain ⟨A9, c9, e9, -⟩ := hr.1
    cases e9
    rfl
  clear hr
  have HW0 := Lib.hid hw; clear hw
  obtain ⟨st, utf, pr, fi, pp, it, tx, bad⟩ := p
  dsimp only at *
  have hbv : (b.toNat : Int) = 127 := by omega
  rw [hbv]
  have c0 : (st == 0) = false := by simp; omega
  clear hnu hs
  have HV1 := Lib.hid hv1
  have HV2 := Lib.hid hv2
  clear hv1 hv2
  clear hbv
  clear hb
  unfold cS
  dsimp only at *
  have HX0 := Lib.hid ((Box.new w #[.int .i64 st, .slice au nu cu, .int .u8 (pr.toNat : Int), .int .u8 (fi.toNat : Int), .slice aq nq cq, .string it, .string tx, .bool bad] 25).alloc (.cells #[.int .i64 0, .slice none 0 0, .int .u8 0, .int .u8 0, .slice none 0 0, .string ⟨#[]⟩, .string ⟨#[]⟩, .bool false] 25))
  have hx1 := Box.new (w.alloc (.cells #[.int .i64 st, .slice au nu cu, .int .u8 (pr.toNat : Int), .int .u8 (fi.toNat : Int), .slice aq nq cq, .string it, .string tx, .bool bad] 25)) #[.int .i64 0, .slice none 0 0, .int .u8 0, .int .u8 0, .slice none 0 0, .string ⟨#[]⟩, .string ⟨#[]⟩, .bool false] 25
  rw [World.size_alloc] at hx1
  have HX1 := Lib.hid hx1
  have HB1 := Lib.hid (show Below w.heap.size w ((w.alloc (.cells #[.int .i64 st, .slice au nu cu, .int .u8 (pr.toNat : Int), .int .u8 (fi.toNat : Int), .slice aq nq cq, .string it, .string tx, .bool bad] 25)).alloc (.cells #[.int .i64 0, .slice none 0 0, .int .u8 0, .int .u8 0, .slice none 0 0, .string ⟨#[]⟩, .string ⟨#[]⟩, .bool false] 25)) from up (below_box _ _) (below_box _ _))
  clear hx1
  have a0 := HX0.out.cell 0 _ rfl
  have a1 := HX0.out.cell 1 _ rfl
  have a2 := HX0.out.cell 2 _ rfl
  have a3 := HX0.out.cell 3 _ rfl
  have a4 := HX0.out.cell 4 _ rfl
  have a5 := HX0.out.cell 5 _ rfl
  have a6 := HX0.out.cell 6 _ rfl
  have a7 := HX0.out.cell 7 _ rfl
  have g0 := HX0.out.free 0 (by show 0 < 8; decide)
  obtain ⟨z0, y0, z1, y1, z2, y2, z3, y3, z4, y4, z5, y5, z6, y6, z7, y7⟩ := cf8 HX1.out
  have l0 := HX0.out.1
  have l1 := HX1.out.1
  go_enter Tryz.func31, Tryz.ntmps31
  go_wp2_with (first
    | (go_at_call 43; refine (has_any _ _ 3 _ [6, 11, 13] _ rfl (rd_at _ _ [6, 11, 13] _ _ rfl (by simp)) (by decide)).mono ?_; rw [HV2.out]; rintro e wn ⟨rfl, hbn⟩; have hk := up (below_box _ _) hbn; have hx0 := HX0.out.keep hk; have hx1 := HX1.out.keep hk; have hbb := up HB1.out hk; clear HX0 HX1 HB1; have HX0 := Lib.hid hx0; have HX1 := Lib.hid hx1; have HB1 := Lib.hid hbb; clear hx0 hx1 hbb hk hbn; clear a0 z0 y0 a1 z1 y1 a2 z2 y2 a3 z3 y3 a4 z4 y4 a5 z5 y5 a6 z6 y6 a7 z7 y7 g0 l0 l1; have a0 := HX0.out.cell 0 _ rfl; have a1 := HX0.out.cell 1 _ rfl; have a2 := HX0.out.cell 2 _ rfl; have a3 := HX0.out.cell 3 _ rfl; have a4 := HX0.out.cell 4 _ rfl; have a5 := HX0.out.cell 5 _ rfl; have a6 := HX0.out.cell 6 _ rfl; have a7 := HX0.out.cell 7 _ rfl; have g0 := HX0.out.free 0 (by show 0 < 8; decide); obtain ⟨z0, y0, z1, y1, z2, y2, z3, y3, z4, y4, z5, y5, z6, y6, z7, y7⟩ := cf8 HX1.out; have l0 := HX0.out.1; have l1 := HX1.out.1)
    | (go_at_call 43; refine (has_any _ _ 3 _ [7, 12, 14] _ rfl (rd_at _ _ [7, 12, 14] _ _ rfl (by simp)) (by decide)).mono ?_; rw [HV1.out]; rintro e wn ⟨rfl, hbn⟩; have hk := up (below_box _ _) hbn; have hx0 := HX0.out.keep hk; have hx1 := HX1.out.keep hk; have hbb := up HB1.out hk; clear HX0 HX1 HB1; have HX0 := Lib.hid hx0; have HX1 := Lib.hid hx1; have HB1 := Lib.hid hbb; clear hx0 hx1 hbb hk hbn; clear a0 z0 y0 a1 z1 y1 a2 z2 y2 a3 z3 y3 a4 z4 y4 a5 z5 y5 a6 z6 y6 a7 z7 y7 g0 l0 l1; have a0 := HX0.out.cell 0 _ rfl; have a1 := HX0.out.cell 1 _ rfl; have a2 := HX0.out.cell 2 _ rfl; have a3 := HX0.out.cell 3 _ rfl; have a4 := HX0.out.cell 4 _ rfl; have a5 := HX0.out.cell 5 _ rfl; have a6 := HX0.out.cell 6 _ rfl; have a7 := HX0.out.cell 7 _ rfl; have g0 := HX0.out.free 0 (by show 0 < 8; decide); obtain ⟨z0, y0, z1, y1, z2, y2, z3, y3, z4, y4, z5, y5, z6, y6, z7, y7⟩ := cf8 HX1.out; have l0 := HX0.out.1; have l1 := HX1.out.1))
  refine bodyPost_ret (ret_cell rfl _ _ ⟨w.heap.size + 1, 0, none⟩ _ rfl (load_par8 _ _ _ _ _ _ _ _ _ _ (box_set8 _ _ _ _ _ _ _ _ HX1.out))) rfl ?_
  exact ⟨_, _, _, rfl, fun W hW => ⟨HRS.out.keepP hW.1, RV.nil _⟩, below_set8 _ _ _ _ _ _ _ _ _ HB1.out (by omega)⟩
end Go.Proofs.YtmboekpomjgnnaaGreatDoor.Sta
