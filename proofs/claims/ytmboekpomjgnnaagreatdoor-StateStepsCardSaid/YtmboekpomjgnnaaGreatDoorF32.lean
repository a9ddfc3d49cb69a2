/-
  StaK
-/
import Derived.Test.YtmboekpomjgnnaaGreatDoorF29
import Derived.Test.YtmboekpomjgnnaaGreatDoorF31
namespace Go.Proofs.YtmboekpomjgnnaaGreatDoor.Sta
open Go.RowKit Utf Par

set_option maxRecDepth 100000 in
set_option maxHeartbeats 8000000 in
theorem goes_4D (p : PS) (b : UInt8) (au aq : Option Addr) (nu cu nq cq : Nat) (w0 w : World) (hr : RS w0 (.slice au nu cu) (.slice aq nq cq) p) (hw : Pre w0 w) (h0 : p.st = 4) (k : 48 ≤ b.toNat) (k2 : b.toNat ≤ 59) (hk : Ks p.ps) (he : (stpV p.ps b).2 ≠ 0) :
    Calls Tryz.prog 55 #[.agg (cS p (.slice au nu cu) (.slice aq nq cq)), .int .u8 (b.toNat : Int)] w (Ret2 (spoS p.st, []) w0 w) := by
  have HRS := Lib.hid hr; clear hr
  have HW0 := Lib.hid hw; clear hw
  obtain ⟨st, utf, pr, fi, pp, it, tx, bad⟩ := p
  dsimp only at *
  have hst : st = 4 := by omega
  subst hst
  have d_l47 : decide ((b.toNat : Int) ≤ 47) = false := decide_eq_false (by omega)
  have d_g48 : decide ((48 : Int) ≤ (b.toNat : Int)) = true := decide_eq_true (by omega)
  have d_l59 : decide ((b.toNat : Int) ≤ 59) = true := decide_eq_true (by omega)
  have d_g60 : decide ((60 : Int) ≤ (b.toNat : Int)) = false := decide_eq_false (by omega)
  have d_l63 : decide ((b.toNat : Int) ≤ 63) = true := decide_eq_true (by omega)
  clear k k2 h0
  unfold cS
  dsimp only at *
  have hx1 := Box.new (w.alloc (.cells #[.int .i64 4, .slice au nu cu, .int .u8 (pr.toNat : Int), .int .u8 (fi.toNat : Int), .slice aq nq cq, .string it, .string tx, .bool bad] 25)) #[.int .i64 0, .slice none 0 0, .int .u8 0, .int .u8 0, .slice none 0 0, .string ⟨#[]⟩, .string ⟨#[]⟩, .bool false] 25
  have hb1 : Below w.heap.size w ((w.alloc (.cells #[.int .i64 4, .slice au nu cu, .int .u8 (pr.toNat : Int), .int .u8 (fi.toNat : Int), .slice aq nq cq, .string it, .string tx, .bool bad] 25)).alloc (.cells #[.int .i64 0, .slice none 0 0, .int .u8 0, .int .u8 0, .slice none 0 0, .string ⟨#[]⟩, .string ⟨#[]⟩, .bool false] 25)) := up (below_box _ _) (below_box _ _)
  rw [World.size_alloc] at hx1
  have HX1 := Lib.hid hx1
  have HB1 := Lib.hid hb1
  clear hx1 hb1
  have hp1 := (Box.new w #[.int .i64 4, .slice au nu cu, .int .u8 (pr.toNat : Int), .int .u8 (fi.toNat : Int), .slice aq nq cq, .string it, .string tx, .bool bad] 25).alloc (.cells #[.int .i64 0, .slice none 0 0, .int .u8 0, .int .u8 0, .slice none 0 0, .string ⟨#[]⟩, .string ⟨#[]⟩, .bool false] 25)
  have HP1 := Lib.hid hp1
  clear hp1
  have hst := fun (W : World) (h : RL W (.slice aq nq cq) pp) => rstep_own (.slice aq nq cq) pp b W h hk
  obtain ⟨sv, hsv⟩ : ∃ sv, sv = stpV pp b := ⟨_, rfl⟩
  rw [← hsv] at he
  simp only [← hsv] at hst
  clear hsv
  obtain ⟨pl, er⟩ := sv
  dsimp only at hst he ⊢
  have e0 : (er == 0) = false := by simp; exact he
  have e1 : (er != 0) = true := by simp; exact he
  have e2 : decide (er = 0) = false := by simp; exact he
  have e3 : (!decide (er = 0)) = true := by simp; exact he
  have HST := Lib.hid hst
  clear hst hk
  go_enter Tryz.func55, Tryz.ntmps55
  go_wp2_with (first | (go_at_call 75; refine (HST.out _ (RL.keepP HRS.out.2 (upP HW0.out HB1.out))).mono ?_; rintro e w2 ⟨v2, rfl, hr2, hb2⟩; obtain ⟨A2, c2, hv⟩ := hr2.rl.form; subst hv; have HR2 := Lib.hid hr2; clear hr2; have hp2 := HP1.out.keep hb2; obtain ⟨x0, u0, x1, u1, x2, u2, x3, u3, x4, u4, x5, u5, x6, u6, x7, u7⟩ := cf8 hp2; have hx2 := HX1.out.keep hb2; obtain ⟨z0, y0, z1, y1, z2, y2, z3, y3, z4, y4, z5, y5, z6, y6, z7, y7⟩ := cf8 hx2; have l2 := hx2.1; have HX2 := Lib.hid hx2; have HP2 := Lib.hid hp2; have HB2 := Lib.hid hb2; clear hx2 hp2 hb2) | (go_at_call 72; refine (spoilt_any _ _).mono ?_; rintro e w3 ⟨rfl, hb3⟩; clear x0 x1 x2 x3 x4 x5 x6 x7 u0 u1 u2 u3 u4 u5 u6 u7 y0 y1 y2 y3 y4 y5 y6 y7 z0 z1 z2 z3 z4 z5 z6 z7; have hx3 := HX2.out.keep hb3; obtain ⟨z0, y0, z1, y1, z2, y2, z3, y3, z4, y4, z5, y5, z6, y6, z7, y7⟩ := cf8 hx3; have l3 := hx3.1; have HX3 := Lib.hid hx3; clear hx3))
  refine bodyPost_ret (ret_cell rfl _ _ ⟨w.heap.size + 1, 0, none⟩ _ rfl (load_par8 _ _ _ _ _ _ _ _ _ _ (box_set8 _ _ _ _ _ _ _ _ HX3.out))) rfl ?_
  exact ⟨_, _, _, rfl, fun W hW => ⟨RS.nil _ _ rfl rfl, RV.nil _⟩, below_set8 _ _ _ _ _ _ _ _ _ (up (up HB1.out HB2.out) hb3) (by omega)⟩
set_option maxRecDepth 100000 in
set_option maxHeartbeats 8000000 in
theorem goes_4Dt (p : PS) (b : UInt8) (au aq : Option Addr) (nu cu nq cq : Nat) (w0 w : World) (hr : RS w0 (.slice au nu cu) (.slice aq nq cq) p) (hw : Pre w0 w) (h0 : p.st = 4) (k : 48 ≤ b.toNat) (k2 : b.toNat ≤ 59) (hk : Ks p.ps) (he : (stpV p.ps b).2 = 0) (hbad : p.bad = true) :
    Calls Tryz.prog 55 #[.agg (cS p (.slice au nu cu) (.slice aq nq cq)), .int .u8 (b.toNat : Int)] w (Ret2 (spoS p.st, []) w0 w) := by
  have HRS := Lib.hid hr; clear hr
  have HW0 := Lib.hid hw; clear hw
  obtain ⟨st, utf, pr, fi, pp, it, tx, bad⟩ := p
  dsimp only at *
  have hst : st = 4 := by omega
  subst hst
  have d_l47 : decide ((b.toNat : Int) ≤ 47) = false := decide_eq_false (by omega)
  have d_g48 : decide ((48 : Int) ≤ (b.toNat : Int)) = true := decide_eq_true (by omega)
  have d_l59 : decide ((b.toNat : Int) ≤ 59) = true := decide_eq_true (by omega)
  have d_g60 : decide ((60 : Int) ≤ (b.toNat : Int)) = false := decide_eq_false (by omega)
  have d_l63 : decide ((b.toNat : Int) ≤ 63) = true := decide_eq_true (by omega)
  clear k k2 h0
  subst hbad
  unfold cS
  dsimp only at *
  have hx1 := Box.new (w.alloc (.cells #[.int .i64 4, .slice au nu cu, .int .u8 (pr.toNat : Int), .int .u8 (fi.toNat : Int), .slice aq nq cq, .string it, .string tx, .bool true] 25)) #[.int .i64 0, .slice none 0 0, .int .u8 0, .int .u8 0, .slice none 0 0, .string ⟨#[]⟩, .string ⟨#[]⟩, .bool false] 25
  have hb1 : Below w.heap.size w ((w.alloc (.cells #[.int .i64 4, .slice au nu cu, .int .u8 (pr.toNat : Int), .int .u8 (fi.toNat : Int), .slice aq nq cq, .string it, .string tx, .bool true] 25)).alloc (.cells #[.int .i64 0, .slice none 0 0, .int .u8 0, .int .u8 0, .slice none 0 0, .string ⟨#[]⟩, .string ⟨#[]⟩, .bool false] 25)) := up (below_box _ _) (below_box _ _)
  rw [World.size_alloc] at hx1
  have HX1 := Lib.hid hx1
  have HB1 := Lib.hid hb1
  clear hx1 hb1
  have hp1 := (Box.new w #[.int .i64 4, .slice au nu cu, .int .u8 (pr.toNat : Int), .int .u8 (fi.toNat : Int), .slice aq nq cq, .string it, .string tx, .bool true] 25).alloc (.cells #[.int .i64 0, .slice none 0 0, .int .u8 0, .int .u8 0, .slice none 0 0, .string ⟨#[]⟩, .string ⟨#[]⟩, .bool false] 25)
  have HP1 := Lib.hid hp1
  clear hp1
  have hst := fun (W : World) (h : RL W (.slice aq nq cq) pp) => rstep_own (.slice aq nq cq) pp b W h hk
  obtain ⟨sv, hsv⟩ : ∃ sv, sv = stpV pp b := ⟨_, rfl⟩
  rw [← hsv] at he
  simp only [← hsv] at hst
  clear hsv
  obtain ⟨pl, er⟩ := sv
  dsimp only at hst he ⊢
  subst he
  have HST := Lib.hid hst
  clear hst hk
  go_enter Tryz.func55, Tryz.ntmps55
  go_wp2_with (first | (go_at_call 75; refine (HST.out _ (RL.keepP HRS.out.2 (upP HW0.out HB1.out))).mono ?_; rintro e w2 ⟨v2, rfl, hr2, hb2⟩; obtain ⟨A2, c2, hv⟩ := hr2.rl.form; subst hv; have HR2 := Lib.hid hr2; clear hr2; have hp2 := HP1.out.keep hb2; obtain ⟨x0, u0, x1, u1, x2, u2, x3, u3, x4, u4, x5, u5, x6, u6, x7, u7⟩ := cf8 hp2; have hx2 := HX1.out.keep hb2; obtain ⟨z0, y0, z1, y1, z2, y2, z3, y3, z4, y4, z5, y5, z6, y6, z7, y7⟩ := cf8 hx2; have l2 := hx2.1; have HX2 := Lib.hid hx2; have HP2 := Lib.hid hp2; have HB2 := Lib.hid hb2; clear hx2 hp2 hb2) | (go_at_call 72; refine (spoilt_any _ _).mono ?_; rintro e w3 ⟨rfl, hb3⟩; clear x0 x1 x2 x3 x4 x5 x6 x7 u0 u1 u2 u3 u4 u5 u6 u7 y0 y1 y2 y3 y4 y5 y6 y7 z0 z1 z2 z3 z4 z5 z6 z7; have hx3 := HX2.out.keep hb3; obtain ⟨z0, y0, z1, y1, z2, y2, z3, y3, z4, y4, z5, y5, z6, y6, z7, y7⟩ := cf8 hx3; have l3 := hx3.1; have HX3 := Lib.hid hx3; clear hx3))
  refine bodyPost_ret (ret_cell rfl _ _ ⟨w.heap.size + 1, 0, none⟩ _ rfl (load_par8 _ _ _ _ _ _ _ _ _ _ (box_set8 _ _ _ _ _ _ _ _ HX3.out))) rfl ?_
  exact ⟨_, _, _, rfl, fun W hW => ⟨RS.nil _ _ rfl rfl, RV.nil _⟩, below_set8 _ _ _ _ _ _ _ _ _ (up (up HB1.out HB2.out) hb3) (by omega)⟩
set_option maxRecDepth 100000 in
set_option maxHeartbeats 8000000 in
theorem goes_4Df (p : PS) (b : UInt8) (au aq : Option Addr) (nu cu nq cq : Nat) (w0 w : World) (hr : RS w0 (.slice au nu cu) (.slice aq nq cq) p) (hw : Pre w0 w) (h0 : p.st = 4) (k : 48 ≤ b.toNat) (k2 : b.toNat ≤ 59) (hk : Ks p.ps) (he : (stpV p.ps b).2 = 0) (hbad : p.bad = false) :
    Calls Tryz.prog 55 #[.agg (cS p (.slice au nu cu) (.slice aq nq cq)), .int .u8 (b.toNat : Int)] w (Ret2 ({ p with ps := (stpV p.ps b).1 }, []) w0 w) := by
  have HRS := Lib.hid hr; clear hr
  have HW0 := Lib.hid hw; clear hw
  obtain ⟨st, utf, pr, fi, pp, it, tx, bad⟩ := p
  dsimp only at *
  have hst : st = 4 := by omega
  subst hst
  have d_l47 : decide ((b.toNat : Int) ≤ 47) = false := decide_eq_false (by omega)
  have d_g48 : decide ((48 : Int) ≤ (b.toNat : Int)) = true := decide_eq_true (by omega)
  have d_l59 : decide ((b.toNat : Int) ≤ 59) = true := decide_eq_true (by omega)
  have d_g60 : decide ((60 : Int) ≤ (b.toNat : Int)) = false := decide_eq_false (by omega)
  have d_l63 : decide ((b.toNat : Int) ≤ 63) = true := decide_eq_true (by omega)
  clear k k2 h0
  subst hbad
  unfold cS
  dsimp only at *
  have hx1 := Box.new (w.alloc (.cells #[.int .i64 4, .slice au nu cu, .int .u8 (pr.toNat : Int), .int .u8 (fi.toNat : Int), .slice aq nq cq, .string it, .string tx, .bool false] 25)) #[.int .i64 0, .slice none 0 0, .int .u8 0, .int .u8 0, .slice none 0 0, .string ⟨#[]⟩, .string ⟨#[]⟩, .bool false] 25
  have hb1 : Below w.heap.size w ((w.alloc (.cells #[.int .i64 4, .slice au nu cu, .int .u8 (pr.toNat : Int), .int .u8 (fi.toNat : Int), .slice aq nq cq, .string it, .string tx, .bool false] 25)).alloc (.cells #[.int .i64 0, .slice none 0 0, .int .u8 0, .int .u8 0, .slice none 0 0, .string ⟨#[]⟩, .string ⟨#[]⟩, .bool false] 25)) := up (below_box _ _) (below_box _ _)
  rw [World.size_alloc] at hx1
  have HX1 := Lib.hid hx1
  have HB1 := Lib.hid hb1
  clear hx1 hb1
  have hp1 := (Box.new w #[.int .i64 4, .slice au nu cu, .int .u8 (pr.toNat : Int), .int .u8 (fi.toNat : Int), .slice aq nq cq, .string it, .string tx, .bool false] 25).alloc (.cells #[.int .i64 0, .slice none 0 0, .int .u8 0, .int .u8 0, .slice none 0 0, .string ⟨#[]⟩, .string ⟨#[]⟩, .bool false] 25)
  have HP1 := Lib.hid hp1
  clear hp1
  have hst := fun (W : World) (h : RL W (.slice aq nq cq) pp) => rstep_own (.slice aq nq cq) pp b W h hk
  obtain ⟨sv, hsv⟩ : ∃ sv, sv = stpV pp b := ⟨_, rfl⟩
  rw [← hsv] at he
  simp only [← hsv] at hst
  rw [← hsv]
  clear hsv
  obtain ⟨pl, er⟩ := sv
  dsimp only at hst he ⊢
  subst he
  have HST := Lib.hid hst
  clear hst hk
  go_enter Tryz.func55, Tryz.ntmps55
  go_wp2_with (go_at_call 75; refine (HST.out _ (RL.keepP HRS.out.2 (upP HW0.out HB1.out))).mono ?_; rintro e w2 ⟨v2, rfl, hr2, hb2⟩; obtain ⟨A2, c2, hv⟩ := hr2.rl.form; subst hv; have HR2 := Lib.hid hr2; clear hr2; have hp2 := HP1.out.keep hb2; obtain ⟨x0, u0, x1, u1, x2, u2, x3, u3, x4, u4, x5, u5, x6, u6, x7, u7⟩ := cf8 hp2; have hx2 := HX1.out.keep hb2; obtain ⟨z0, y0, z1, y1, z2, y2, z3, y3, z4, y4, z5, y5, z6, y6, z7, y7⟩ := cf8 hx2; have l2 := hx2.1; have HX2 := Lib.hid hx2; have HP2 := Lib.hid hp2; have HB2 := Lib.hid hb2; clear hx2 hp2 hb2)
  refine bodyPost_ret (ret_cell rfl _ _ ⟨w.heap.size + 1, 0, none⟩ _ rfl (load_par8 _ _ _ _ _ _ _ _ _ _ (box_set8 _ _ _ _ _ _ _ _ (HX2.out.grown (grown_set w2 w.heap.size 4 _) (show some (w.heap.size + 1) ≠ some w.heap.size by simp))))) rfl ?_
  exact ⟨_, _, _, rfl, fun W hW => ⟨⟨HRS.out.1.keepP hW.1, (ownL_agr HR2.out ((hW.down (by simp; omega) (grown_set8 _ _ _ _ _ _ _ _ _ _) (by simp)).down (Nat.le_refl _) (grown_set w2 w.heap.size 4 _) (by simp; omega)).2).rl⟩, RV.nil _⟩, below_set8 _ _ _ _ _ _ _ _ _ ((up HB1.out HB2.out).setCell (Nat.le_refl _) _) (by omega)⟩
set_option maxRecDepth 100000 in
set_option maxHeartbeats 8000000 in
theorem goes_9D (p : PS) (b : UInt8) (au aq : Option Addr) (nu cu nq cq : Nat) (w0 w : World) (hr : RS w0 (.slice au nu cu) (.slice aq nq cq) p) (hw : Pre w0 w) (h0 : p.st = 9) (k : 48 ≤ b.toNat) (k2 : b.toNat ≤ 59) (hk : Ks p.ps) (he : (stpV p.ps b).2 ≠ 0) :
    Calls Tryz.prog 55 #[.agg (cS p (.slice au nu cu) (.slice aq nq cq)), .int .u8 (b.toNat : Int)] w (Ret2 (spoS p.st, []) w0 w) := by
  have HRS := Lib.hid hr; clear hr
  have HW0 := Lib.hid hw; clear hw
  obtain ⟨st, utf, pr, fi, pp, it, tx, bad⟩ := p
  dsimp only at *
  have hst : st = 9 := by omega
  subst hst
  have d_l47 : decide ((b.toNat : Int) ≤ 47) = false := decide_eq_false (by omega)
  have d_g48 : decide ((48 : Int) ≤ (b.toNat : Int)) = true := decide_eq_true (by omega)
  have d_l59 : decide ((b.toNat : Int) ≤ 59) = true := decide_eq_true (by omega)
  have d_g60 : decide ((60 : Int) ≤ (b.toNat : Int)) = false := decide_eq_false (by omega)
  have d_l63 : decide ((b.toNat : Int) ≤ 63) = true := decide_eq_true (by omega)
  clear k k2 h0
  unfold cS
  dsimp only at *
  have hx1 := Box.new (w.alloc (.cells #[.int .i64 9, .slice au nu cu, .int .u8 (pr.toNat : Int), .int .u8 (fi.toNat : Int), .slice aq nq cq, .string it, .string tx, .bool bad] 25)) #[.int .i64 0, .slice none 0 0, .int .u8 0, .int .u8 0, .slice none 0 0, .string ⟨#[]⟩, .string ⟨#[]⟩, .bool false] 25
  have hb1 : Below w.heap.size w ((w.alloc (.cells #[.int .i64 9, .slice au nu cu, .int .u8 (pr.toNat : Int), .int .u8 (fi.toNat : Int), .slice aq nq cq, .string it, .string tx, .bool bad] 25)).alloc (.cells #[.int .i64 0, .slice none 0 0, .int .u8 0, .int .u8 0, .slice none 0 0, .string ⟨#[]⟩, .string ⟨#[]⟩, .bool false] 25)) := up (below_box _ _) (below_box _ _)
  rw [World.size_alloc] at hx1
  have HX1 := Lib.hid hx1
  have HB1 := Lib.hid hb1
  clear hx1 hb1
  have hp1 := (Box.new w #[.int .i64 9, .slice au nu cu, .int .u8 (pr.toNat : Int), .int .u8 (fi.toNat : Int), .slice aq nq cq, .string it, .string tx, .bool bad] 25).alloc (.cells #[.int .i64 0, .slice none 0 0, .int .u8 0, .int .u8 0, .slice none 0 0, .string ⟨#[]⟩, .string ⟨#[]⟩, .bool false] 25)
  have HP1 := Lib.hid hp1
  clear hp1
  have hst := fun (W : World) (h : RL W (.slice aq nq cq) pp) => rstep_own (.slice aq nq cq) pp b W h hk
  obtain ⟨sv, hsv⟩ : ∃ sv, sv = stpV pp b := ⟨_, rfl⟩
  rw [← hsv] at he
  simp only [← hsv] at hst
  clear hsv
  obtain ⟨pl, er⟩ := sv
  dsimp only at hst he ⊢
  have e0 : (er == 0) = false := by simp; exact he
  have e1 : (er != 0) = true := by simp; exact he
  have e2 : decide (er = 0) = false := by simp; exact he
  have e3 : (!decide (er = 0)) = true := by simp; exact he
  have HST := Lib.hid hst
  clear hst hk
  go_enter Tryz.func55, Tryz.ntmps55
  go_wp2_with (first | (go_at_call 75; refine (HST.out _ (RL.keepP HRS.out.2 (upP HW0.out HB1.out))).mono ?_; rintro e w2 ⟨v2, rfl, hr2, hb2⟩; obtain ⟨A2, c2, hv⟩ := hr2.rl.form; subst hv; have HR2 := Lib.hid hr2; clear hr2; have hp2 := HP1.out.keep hb2; obtain ⟨x0, u0, x1, u1, x2, u2, x3, u3, x4, u4, x5, u5, x6, u6, x7, u7⟩ := cf8 hp2; have hx2 := HX1.out.keep hb2; obtain ⟨z0, y0, z1, y1, z2, y2, z3, y3, z4, y4, z5, y5, z6, y6, z7, y7⟩ := cf8 hx2; have l2 := hx2.1; have HX2 := Lib.hid hx2; have HP2 := Lib.hid hp2; have HB2 := Lib.hid hb2; clear hx2 hp2 hb2) | (go_at_call 72; refine (spoilt_any _ _).mono ?_; rintro e w3 ⟨rfl, hb3⟩; clear x0 x1 x2 x3 x4 x5 x6 x7 u0 u1 u2 u3 u4 u5 u6 u7 y0 y1 y2 y3 y4 y5 y6 y7 z0 z1 z2 z3 z4 z5 z6 z7; have hx3 := HX2.out.keep hb3; obtain ⟨z0, y0, z1, y1, z2, y2, z3, y3, z4, y4, z5, y5, z6, y6, z7, y7⟩ := cf8 hx3; have l3 := hx3.1; have HX3 := Lib.hid hx3; clear hx3))
  refine bodyPost_ret (ret_cell rfl _ _ ⟨w.heap.size + 1, 0, none⟩ _ rfl (load_par8 _ _ _ _ _ _ _ _ _ _ (box_set8 _ _ _ _ _ _ _ _ HX3.out))) rfl ?_
  exact ⟨_, _, _, rfl, fun W hW => ⟨RS.nil _ _ rfl rfl, RV.nil _⟩, below_set8 _ _ _ _ _ _ _ _ _ (up (up HB1.out HB2.out) hb3) (by omega)⟩
set_option maxRecDepth 100000 in
set_option maxHeartbeats 8000000 in
theorem goes_9Dt (p : PS) (b : UInt8) (au aq : Option Addr) (nu cu nq cq : Nat) (w0 w : World) (hr : RS w0 (.slice au nu cu) (.slice aq nq cq) p) (hw : Pre w0 w) (h0 : p.st = 9) (k : 48 ≤ b.toNat) (k2 : b.toNat ≤ 59) (hk : Ks p.ps) (he : (stpV p.ps b).2 = 0) (hbad : p.bad = true) :
    Calls Tryz.prog 55 #[.agg (cS p (.slice au nu cu) (.slice aq nq cq)), .int .u8 (b.toNat : Int)] w (Ret2 (spoS p.st, []) w0 w) := by
  have HRS := Lib.hid hr; clear hr
  have HW0 := Lib.hid hw; clear hw
  obtain ⟨st, utf, pr, fi, pp, it, tx, bad⟩ := p
  dsimp only at *
  have hst : st = 9 := by omega
  subst hst
  have d_l47 : decide ((b.toNat : Int) ≤ 47) = false := decide_eq_false (by omega)
  have d_g48 : decide ((48 : Int) ≤ (b.toNat : Int)) = true := decide_eq_true (by omega)
  have d_l59 : decide ((b.toNat : Int) ≤ 59) = true := decide_eq_true (by omega)
  have d_g60 : decide ((60 : Int) ≤ (b.toNat : Int)) = false := decide_eq_false (by omega)
  have d_l63 : decide ((b.toNat : Int) ≤ 63) = true := decide_eq_true (by omega)
  clear k k2 h0
  subst hbad
  unfold cS
  dsimp only at *
  have hx1 := Box.new (w.alloc (.cells #[.int .i64 9, .slice au nu cu, .int .u8 (pr.toNat : Int), .int .u8 (fi.toNat : Int), .slice aq nq cq, .string it, .string tx, .bool true] 25)) #[.int .i64 0, .slice none 0 0, .int .u8 0, .int .u8 0, .slice none 0 0, .string ⟨#[]⟩, .string ⟨#[]⟩, .bool false] 25
  have hb1 : Below w.heap.size w ((w.alloc (.cells #[.int .i64 9, .slice au nu cu, .int .u8 (pr.toNat : Int), .int .u8 (fi.toNat : Int), .slice aq nq cq, .string it, .string tx, .bool true] 25)).alloc (.cells #[.int .i64 0, .slice none 0 0, .int .u8 0, .int .u8 0, .slice none 0 0, .string ⟨#[]⟩, .string ⟨#[]⟩, .bool false] 25)) := up (below_box _ _) (below_box _ _)
  rw [World.size_alloc] at hx1
  have HX1 := Lib.hid hx1
  have HB1 := Lib.hid hb1
  clear hx1 hb1
  have hp1 := (Box.new w #[.int .i64 9, .slice au nu cu, .int .u8 (pr.toNat : Int), .int .u8 (fi.toNat : Int), .slice aq nq cq, .string it, .string tx, .bool true] 25).alloc (.cells #[.int .i64 0, .slice none 0 0, .int .u8 0, .int .u8 0, .slice none 0 0, .string ⟨#[]⟩, .string ⟨#[]⟩, .bool false] 25)
  have HP1 := Lib.hid hp1
  clear hp1
  have hst := fun (W : World) (h : RL W (.slice aq nq cq) pp) => rstep_own (.slice aq nq cq) pp b W h hk
  obtain ⟨sv, hsv⟩ : ∃ sv, sv = stpV pp b := ⟨_, rfl⟩
  rw [← hsv] at he
  simp only [← hsv] at hst
  clear hsv
  obtain ⟨pl, er⟩ := sv
  dsimp only at hst he ⊢
  subst he
  have HST := Lib.hid hst
  clear hst hk
  go_enter Tryz.func55, Tryz.ntmps55
  go_wp2_with (first | (go_at_call 75; refine (HST.out _ (RL.keepP HRS.out.2 (upP HW0.out HB1.out))).mono ?_; rintro e w2 ⟨v2, rfl, hr2, hb2⟩; obtain ⟨A2, c2, hv⟩ := hr2.rl.form; subst hv; have HR2 := Lib.hid hr2; clear hr2; have hp2 := HP1.out.keep hb2; obtain ⟨x0, u0, x1, u1, x2, u2, x3, u3, x4, u4, x5, u5, x6, u6, x7, u7⟩ := cf8 hp2; have hx2 := HX1.out.keep hb2; obtain ⟨z0, y0, z1, y1, z2, y2, z3, y3, z4, y4, z5, y5, z6, y6, z7, y7⟩ := cf8 hx2; have l2 := hx2.1; have HX2 := Lib.hid hx2; have HP2 := Lib.hid hp2; have HB2 := Lib.hid hb2; clear hx2 hp2 hb2) | (go_at_call 72; refine (spoilt_any _ _).mono ?_; rintro e w3 ⟨rfl, hb3⟩; clear x0 x1 x2 x3 x4 x5 x6 x7 u0 u1 u2 u3 u4 u5 u6 u7 y0 y1 y2 y3 y4 y5 y6 y7 z0 z1 z2 z3 z4 z5 z6 z7; have hx3 := HX2.out.keep hb3; obtain ⟨z0, y0, z1, y1, z2, y2, z3, y3, z4, y4, z5, y5, z6, y6, z7, y7⟩ := cf8 hx3; have l3 := hx3.1; have HX3 := Lib.hid hx3; clear hx3))
  refine bodyPost_ret (ret_cell rfl _ _ ⟨w.heap.size + 1, 0, none⟩ _ rfl (load_par8 _ _ _ _ _ _ _ _ _ _ (box_set8 _ _ _ _ _ _ _ _ HX3.out))) rfl ?_
  exact ⟨_, _, _, rfl, fun W hW => ⟨RS.nil _ _ rfl rfl, RV.nil _⟩, below_set8 _ _ _ _ _ _ _ _ _ (up (up HB1.out HB2.out) hb3) (by omega)⟩
set_option maxRecDepth 100000 in
set_option maxHeartbeats 8000000 in
theorem goes_9Df (p : PS) (b : UInt8) (au aq : Option Addr) (nu cu nq cq : Nat) (w0 w : World) (hr : RS w0 (.slice au nu cu) (.slice aq nq cq) p) (hw : Pre w0 w) (h0 : p.st = 9) (k : 48 ≤ b.toNat) (k2 : b.toNat ≤ 59) (hk : Ks p.ps) (he : (stpV p.ps b).2 = 0) (hbad : p.bad = false) :
    Calls Tryz.prog 55 #[.agg (cS p (.slice au nu cu) (.slice aq nq cq)), .int .u8 (b.toNat : Int)] w (Ret2 ({ p with ps := (stpV p.ps b).1 }, []) w0 w) := by
  have HRS := Lib.hid hr; clear hr
  have HW0 := Lib.hid hw; clear hw
  obtain ⟨st, utf, pr, fi, pp, it, tx, bad⟩ := p
  dsimp only at *
  have hst : st = 9 := by omega
  subst hst
  have d_l47 : decide ((b.toNat : Int) ≤ 47) = false := decide_eq_false (by omega)
  have d_g48 : decide ((48 : Int) ≤ (b.toNat : Int)) = true := decide_eq_true (by omega)
  have d_l59 : decide ((b.toNat : Int) ≤ 59) = true := decide_eq_true (by omega)
  have d_g60 : decide ((60 : Int) ≤ (b.toNat : Int)) = false := decide_eq_false (by omega)
  have d_l63 : decide ((b.toNat : Int) ≤ 63) = true := decide_eq_true (by omega)
  clear k k2 h0
  subst hbad
  unfold cS
  dsimp only at *
  have hx1 := Box.new (w.alloc (.cells #[.int .i64 9, .slice au nu cu, .int .u8 (pr.toNat : Int), .int .u8 (fi.toNat : Int), .slice aq nq cq, .string it, .string tx, .bool false] 25)) #[.int .i64 0, .slice none 0 0, .int .u8 0, .int .u8 0, .slice none 0 0, .string ⟨#[]⟩, .string ⟨#[]⟩, .bool false] 25
  have hb1 : Below w.heap.size w ((w.alloc (.cells #[.int .i64 9, .slice au nu cu, .int .u8 (pr.toNat : Int), .int .u8 (fi.toNat : Int), .slice aq nq cq, .string it, .string tx, .bool false] 25)).alloc (.cells #[.int .i64 0, .slice none 0 0, .int .u8 0, .int .u8 0, .slice none 0 0, .string ⟨#[]⟩, .string ⟨#[]⟩, .bool false] 25)) := up (below_box _ _) (below_box _ _)
  rw [World.size_alloc] at hx1
  have HX1 := Lib.hid hx1
  have HB1 := Lib.hid hb1
  clear hx1 hb1
  have hp1 := (Box.new w #[.int .i64 9, .slice au nu cu, .int .u8 (pr.toNat : Int), .int .u8 (fi.toNat : Int), .slice aq nq cq, .string it, .string tx, .bool false] 25).alloc (.cells #[.int .i64 0, .slice none 0 0, .int .u8 0, .int .u8 0, .slice none 0 0, .string ⟨#[]⟩, .string ⟨#[]⟩, .bool false] 25)
  have HP1 := Lib.hid hp1
  clear hp1
  have hst := fun (W : World) (h : RL W (.slice aq nq cq) pp) => rstep_own (.slice aq nq cq) pp b W h hk
  obtain ⟨sv, hsv⟩ : ∃ sv, sv = stpV pp b := ⟨_, rfl⟩
  rw [← hsv] at he
  simp only [← hsv] at hst
  rw [← hsv]
  clear hsv
  obtain ⟨pl, er⟩ := sv
  dsimp only at hst he ⊢
  subst he
  have HST := Lib.hid hst
  clear hst hk
  go_enter Tryz.func55, Tryz.ntmps55
  go_wp2_with (go_at_call 75; refine (HST.out _ (RL.keepP HRS.out.2 (upP HW0.out HB1.out))).mono ?_; rintro e w2 ⟨v2, rfl, hr2, hb2⟩; obtain ⟨A2, c2, hv⟩ := hr2.rl.form; subst hv; have HR2 := Lib.hid hr2; clear hr2; have hp2 := HP1.out.keep hb2; obtain ⟨x0, u0, x1, u1, x2, u2, x3, u3, x4, u4, x5, u5, x6, u6, x7, u7⟩ := cf8 hp2; have hx2 := HX1.out.keep hb2; obtain ⟨z0, y0, z1, y1, z2, y2, z3, y3, z4, y4, z5, y5, z6, y6, z7, y7⟩ := cf8 hx2; have l2 := hx2.1; have HX2 := Lib.hid hx2; have HP2 := Lib.hid hp2; have HB2 := Lib.hid hb2; clear hx2 hp2 hb2)
  refine bodyPost_ret (ret_cell rfl _ _ ⟨w.heap.size + 1, 0, none⟩ _ rfl (load_par8 _ _ _ _ _ _ _ _ _ _ (box_set8 _ _ _ _ _ _ _ _ (HX2.out.grown (grown_set w2 w.heap.size 4 _) (show some (w.heap.size + 1) ≠ some w.heap.size by simp))))) rfl ?_
  exact ⟨_, _, _, rfl, fun W hW => ⟨⟨HRS.out.1.keepP hW.1, (ownL_agr HR2.out ((hW.down (by simp; omega) (grown_set8 _ _ _ _ _ _ _ _ _ _) (by simp)).down (Nat.le_refl _) (grown_set w2 w.heap.size 4 _) (by simp; omega)).2).rl⟩, RV.nil _⟩, below_set8 _ _ _ _ _ _ _ _ _ ((up HB1.out HB2.out).setCell (Nat.le_refl _) _) (by omega)⟩
theorem goes_at0 (p : PS) (b : UInt8) (au aq : Option Addr) (nu cu nq cq : Nat) (w0 w : World) (hr : RS w0 (.slice au nu cu) (.slice aq nq cq) p) (hw : Pre w0 w) (h0 : p.st = 0) :
    Calls Tryz.prog 55 #[.agg (cS p (.slice au nu cu) (.slice aq nq cq)), .int .u8 (b.toNat : Int)] w (Ret2 (goeS p b) w0 w) := by
  rcases (show b.toNat ≤ 47 ∨ (48 ≤ b.toNat ∧ b.toNat ≤ 59) ∨ (60 ≤ b.toNat ∧ b.toNat ≤ 63) ∨ 64 ≤ b.toNat by omega) with k | ⟨k, k2⟩ | ⟨k, k2⟩ | k
  · have e : goeS p b = (p, [prE b.toNat]) := by
      unfold goeS
      rw [if_pos (by omega)]
    rw [e]
    exact goes_0S p b au aq nu cu nq cq w0 w hr hw h0 k
  · have e : goeS p b = (p, [prE b.toNat]) := by
      unfold goeS
      rw [if_pos (by omega)]
    rw [e]
    exact goes_0D p b au aq nu cu nq cq w0 w hr hw h0 k k2
  · have e : goeS p b = (p, [prE b.toNat]) := by
      unfold goeS
      rw [if_pos (by omega)]
    rw [e]
    exact goes_0V p b au aq nu cu nq cq w0 w hr hw h0 k k2
  · have e : goeS p b = (p, [prE b.toNat]) := by
      unfold goeS
      rw [if_pos (by omega)]
    rw [e]
    exact goes_0F p b au aq nu cu nq cq w0 w hr hw h0 k
theorem goes_at1 (p : PS) (b : UInt8) (au aq : Option Addr) (nu cu nq cq : Nat) (w0 w : World) (hr : RS w0 (.slice au nu cu) (.slice aq nq cq) p) (hw : Pre w0 w) (h0 : p.st = 1) :
    Calls Tryz.prog 55 #[.agg (cS p (.slice au nu cu) (.slice aq nq cq)), .int .u8 (b.toNat : Int)] w (Ret2 (goeS p b) w0 w) := by
  rcases (show b.toNat ≤ 47 ∨ (48 ≤ b.toNat ∧ b.toNat ≤ 59) ∨ (60 ≤ b.toNat ∧ b.toNat ≤ 63) ∨ 64 ≤ b.toNat by omega) with k | ⟨k, k2⟩ | ⟨k, k2⟩ | k
  · have e : goeS p b = (escS b) := by
      unfold goeS
      rw [if_neg (by omega), if_pos (by omega)]
    rw [e]
    exact goes_1S p b au aq nu cu nq cq w0 w hr hw h0 k
  · have e : goeS p b = (escS b) := by
      unfold goeS
      rw [if_neg (by omega), if_pos (by omega)]
    rw [e]
    exact goes_1D p b au aq nu cu nq cq w0 w hr hw h0 k k2
  · have e : goeS p b = (escS b) := by
      unfold goeS
      rw [if_neg (by omega), if_pos (by omega)]
    rw [e]
    exact goes_1V p b au aq nu cu nq cq w0 w hr hw h0 k k2
  · have e : goeS p b = (escS b) := by
      unfold goeS
      rw [if_neg (by omega), if_pos (by omega)]
    rw [e]
    exact goes_1F p b au aq nu cu nq cq w0 w hr hw h0 k
theorem goes_at2 (p : PS) (b : UInt8) (au aq : Option Addr) (nu cu nq cq : Nat) (w0 w : World) (hr : RS w0 (.slice au nu cu) (.slice aq nq cq) p) (hw : Pre w0 w) (h0 : p.st = 2) (hj : p.it.size ≤ 1000000) :
    Calls Tryz.prog 55 #[.agg (cS p (.slice au nu cu) (.slice aq nq cq)), .int .u8 (b.toNat : Int)] w (Ret2 (goeS p b) w0 w) := by
  rcases (show b.toNat ≤ 47 ∨ (48 ≤ b.toNat ∧ b.toNat ≤ 59) ∨ (60 ≤ b.toNat ∧ b.toNat ≤ 63) ∨ 64 ≤ b.toNat by omega) with k | ⟨k, k2⟩ | ⟨k, k2⟩ | k
  · have e : goeS p b = (sigS p b, []) := by
      unfold goeS
      rw [if_neg (by omega), if_neg (by omega), if_pos (by omega), if_pos (by omega)]
    rw [e]
    exact goes_2S p b au aq nu cu nq cq w0 w hr hw h0 k hj
  · have e : goeS p b = (tolS p (esE p.it b)) := by
      unfold goeS
      rw [if_neg (by omega), if_neg (by omega), if_pos (by omega), if_neg (by omega)]
    rw [e]
    exact goes_2D p b au aq nu cu nq cq w0 w hr hw h0 k k2
  · have e : goeS p b = (tolS p (esE p.it b)) := by
      unfold goeS
      rw [if_neg (by omega), if_neg (by omega), if_pos (by omega), if_neg (by omega)]
    rw [e]
    exact goes_2V p b au aq nu cu nq cq w0 w hr hw h0 k k2
  · have e : goeS p b = (tolS p (esE p.it b)) := by
      unfold goeS
      rw [if_neg (by omega), if_neg (by omega), if_pos (by omega), if_neg (by omega)]
    rw [e]
    exact goes_2F p b au aq nu cu nq cq w0 w hr hw h0 k
theorem goes_at3 (p : PS) (b : UInt8) (au aq : Option Addr) (nu cu nq cq : Nat) (w0 w : World) (hr : RS w0 (.slice au nu cu) (.slice aq nq cq) p) (hw : Pre w0 w) (h0 : p.st = 3) :
    Calls Tryz.prog 55 #[.agg (cS p (.slice au nu cu) (.slice aq nq cq)), .int .u8 (b.toNat : Int)] w (Ret2 (goeS p b) w0 w) := by
  rcases (show b.toNat ≤ 47 ∨ (48 ≤ b.toNat ∧ b.toNat ≤ 59) ∨ (60 ≤ b.toNat ∧ b.toNat ≤ 63) ∨ 64 ≤ b.toNat by omega) with k | ⟨k, k2⟩ | ⟨k, k2⟩ | k
  · have e : goeS p b = ({ begS (p.st + 2) with it := bs1 b }, []) := by
      unfold goeS
      rw [if_neg (by omega), if_neg (by omega), if_neg (by omega), if_pos (by omega), if_neg (by omega), if_neg (by omega), if_pos (by omega)]
    rw [e]
    exact goes_3S p b au aq nu cu nq cq w0 w hr hw h0 k
  · have e : goeS p b = ({ begS (p.st + 1) with ps := (stpV [] b).1 }, []) := by
      unfold goeS
      rw [if_neg (by omega), if_neg (by omega), if_neg (by omega), if_pos (by omega), if_neg (by omega), if_pos (by omega)]
    rw [e]
    exact goes_3D p b au aq nu cu nq cq w0 w hr hw h0 k k2
  · have e : goeS p b = ({ begS (p.st + 1) with pr := b }, []) := by
      unfold goeS
      rw [if_neg (by omega), if_neg (by omega), if_neg (by omega), if_pos (by omega), if_pos (by omega)]
    rw [e]
    exact goes_3V p b au aq nu cu nq cq w0 w hr hw h0 k k2
  · have e : goeS p b = (tolS p (csE p b)) := by
      unfold goeS
      rw [if_neg (by omega), if_neg (by omega), if_neg (by omega), if_pos (by omega), if_neg (by omega), if_neg (by omega), if_neg (by omega)]
      unfold finS
      rw [if_pos (by omega)]
    rw [e]
    exact goes_3F p b au aq nu cu nq cq w0 w hr hw h0 k
theorem goes_at4 (p : PS) (b : UInt8) (au aq : Option Addr) (nu cu nq cq : Nat) (w0 w : World) (hr : RS w0 (.slice au nu cu) (.slice aq nq cq) p) (hw : Pre w0 w) (h0 : p.st = 4) (hj : p.it.size ≤ 1000000) (hk : Ks p.ps) :
    Calls Tryz.prog 55 #[.agg (cS p (.slice au nu cu) (.slice aq nq cq)), .int .u8 (b.toNat : Int)] w (Ret2 (goeS p b) w0 w) := by
  rcases (show b.toNat ≤ 47 ∨ (48 ≤ b.toNat ∧ b.toNat ≤ 59) ∨ (60 ≤ b.toNat ∧ b.toNat ≤ 63) ∨ 64 ≤ b.toNat by omega) with k | ⟨k, k2⟩ | ⟨k, k2⟩ | k
  · have e : goeS p b = (sigS { p with st := p.st + 1 } b, []) := by
      unfold goeS
      rw [if_neg (by omega), if_neg (by omega), if_neg (by omega), if_neg (by omega), if_pos (by omega), if_neg (by omega), if_neg (by omega), if_pos (by omega)]
    rw [e]
    exact goes_4S p b au aq nu cu nq cq w0 w hr hw h0 k hj
  · by_cases he : (stpV p.ps b).2 = 0
    · cases hbad : p.bad
      · have e : goeS p b = ({ p with ps := (stpV p.ps b).1 }, []) := by
          unfold goeS
          rw [if_neg (by omega), if_neg (by omega), if_neg (by omega), if_neg (by omega), if_pos (by omega), if_neg (by omega), if_pos (by omega), if_neg (fun h => h.elim (fun h => h he) (fun h => by rw [hbad] at h; cases h))]
        rw [e]
        exact goes_4Df p b au aq nu cu nq cq w0 w hr hw h0 k k2 hk he hbad
      · have e : goeS p b = (spoS p.st, []) := by
          unfold goeS
          rw [if_neg (by omega), if_neg (by omega), if_neg (by omega), if_neg (by omega), if_pos (by omega), if_neg (by omega), if_pos (by omega), if_pos (.inr hbad)]
        rw [e]
        exact goes_4Dt p b au aq nu cu nq cq w0 w hr hw h0 k k2 hk he hbad
    · have e : goeS p b = (spoS p.st, []) := by
        unfold goeS
        rw [if_neg (by omega), if_neg (by omega), if_neg (by omega), if_neg (by omega), if_pos (by omega), if_neg (by omega), if_pos (by omega), if_pos (.inl he)]
      rw [e]
      exact goes_4D p b au aq nu cu nq cq w0 w hr hw h0 k k2 hk he
  · have e : goeS p b = (spoS p.st, []) := by
      unfold goeS
      rw [if_neg (by omega), if_neg (by omega), if_neg (by omega), if_neg (by omega), if_pos (by omega), if_pos (by omega)]
    rw [e]
    exact goes_4V p b au aq nu cu nq cq w0 w hr hw h0 k k2
  · have e : goeS p b = (tolS p (csE p b)) := by
      unfold goeS
      rw [if_neg (by omega), if_neg (by omega), if_neg (by omega), if_neg (by omega), if_pos (by omega), if_neg (by omega), if_neg (by omega), if_neg (by omega)]
      unfold finS
      rw [if_pos (by omega)]
    rw [e]
    exact goes_4F p b au aq nu cu nq cq w0 w hr hw h0 k
theorem goes_at5 (p : PS) (b : UInt8) (au aq : Option Addr) (nu cu nq cq : Nat) (w0 w : World) (hr : RS w0 (.slice au nu cu) (.slice aq nq cq) p) (hw : Pre w0 w) (h0 : p.st = 5) (hj : p.it.size ≤ 1000000) :
    Calls Tryz.prog 55 #[.agg (cS p (.slice au nu cu) (.slice aq nq cq)), .int .u8 (b.toNat : Int)] w (Ret2 (goeS p b) w0 w) := by
  rcases (show b.toNat ≤ 47 ∨ (48 ≤ b.toNat ∧ b.toNat ≤ 59) ∨ (60 ≤ b.toNat ∧ b.toNat ≤ 63) ∨ 64 ≤ b.toNat by omega) with k | ⟨k, k2⟩ | ⟨k, k2⟩ | k
  · have e : goeS p b = (sigS p b, []) := by
      unfold goeS
      rw [if_neg (by omega), if_neg (by omega), if_neg (by omega), if_neg (by omega), if_neg (by omega), if_pos (by omega), if_neg (by omega), if_pos (by omega)]
    rw [e]
    exact goes_5S p b au aq nu cu nq cq w0 w hr hw h0 k hj
  · have e : goeS p b = (spoS p.st, []) := by
      unfold goeS
      rw [if_neg (by omega), if_neg (by omega), if_neg (by omega), if_neg (by omega), if_neg (by omega), if_pos (by omega), if_pos (by omega)]
    rw [e]
    exact goes_5D p b au aq nu cu nq cq w0 w hr hw h0 k k2
  · have e : goeS p b = (spoS p.st, []) := by
      unfold goeS
      rw [if_neg (by omega), if_neg (by omega), if_neg (by omega), if_neg (by omega), if_neg (by omega), if_pos (by omega), if_pos (by omega)]
    rw [e]
    exact goes_5V p b au aq nu cu nq cq w0 w hr hw h0 k k2
  · have e : goeS p b = (tolS p (csE p b)) := by
      unfold goeS
      rw [if_neg (by omega), if_neg (by omega), if_neg (by omega), if_neg (by omega), if_neg (by omega), if_pos (by omega), if_neg (by omega), if_neg (by omega)]
      unfold finS
      rw [if_pos (by omega)]
    rw [e]
    exact goes_5F p b au aq nu cu nq cq w0 w hr hw h0 k
theorem goes_at8 (p : PS) (b : UInt8) (au aq : Option Addr) (nu cu nq cq : Nat) (w0 w : World) (hr : RS w0 (.slice au nu cu) (.slice aq nq cq) p) (hw : Pre w0 w) (h0 : p.st = 8) :
    Calls Tryz.prog 55 #[.agg (cS p (.slice au nu cu) (.slice aq nq cq)), .int .u8 (b.toNat : Int)] w (Ret2 (goeS p b) w0 w) := by
  rcases (show b.toNat ≤ 47 ∨ (48 ≤ b.toNat ∧ b.toNat ≤ 59) ∨ (60 ≤ b.toNat ∧ b.toNat ≤ 63) ∨ 64 ≤ b.toNat by omega) with k | ⟨k, k2⟩ | ⟨k, k2⟩ | k
  · have e : goeS p b = ({ begS (p.st + 2) with it := bs1 b }, []) := by
      unfold goeS
      rw [if_neg (by omega), if_neg (by omega), if_neg (by omega), if_pos (by omega), if_neg (by omega), if_neg (by omega), if_pos (by omega)]
    rw [e]
    exact goes_8S p b au aq nu cu nq cq w0 w hr hw h0 k
  · have e : goeS p b = ({ begS (p.st + 1) with ps := (stpV [] b).1 }, []) := by
      unfold goeS
      rw [if_neg (by omega), if_neg (by omega), if_neg (by omega), if_pos (by omega), if_neg (by omega), if_pos (by omega)]
    rw [e]
    exact goes_8D p b au aq nu cu nq cq w0 w hr hw h0 k k2
  · have e : goeS p b = ({ begS (p.st + 1) with pr := b }, []) := by
      unfold goeS
      rw [if_neg (by omega), if_neg (by omega), if_neg (by omega), if_pos (by omega), if_pos (by omega)]
    rw [e]
    exact goes_8V p b au aq nu cu nq cq w0 w hr hw h0 k k2
  · cases hbad : p.bad
    · have e : goeS p b = ({ p with st := 11, fi := b }, []) := by
        unfold goeS
        rw [if_neg (by omega), if_neg (by omega), if_neg (by omega), if_pos (by omega), if_neg (by omega), if_neg (by omega), if_neg (by omega)]
        unfold finS
        rw [if_neg (by omega), if_neg (by rw [hbad]; decide)]
      rw [e]
      exact goes_8Ff p b au aq nu cu nq cq w0 w hr hw h0 k hbad
    · have e : goeS p b = ({ p with st := 11 }, []) := by
        unfold goeS
        rw [if_neg (by omega), if_neg (by omega), if_neg (by omega), if_pos (by omega), if_neg (by omega), if_neg (by omega), if_neg (by omega)]
        unfold finS
        rw [if_neg (by omega), if_pos hbad]
      rw [e]
      exact goes_8Ft p b au aq nu cu nq cq w0 w hr hw h0 k hbad
theorem goes_at9 (p : PS) (b : UInt8) (au aq : Option Addr) (nu cu nq cq : Nat) (w0 w : World) (hr : RS w0 (.slice au nu cu) (.slice aq nq cq) p) (hw : Pre w0 w) (h0 : p.st = 9) (hj : p.it.size ≤ 1000000) (hk : Ks p.ps) :
    Calls Tryz.prog 55 #[.agg (cS p (.slice au nu cu) (.slice aq nq cq)), .int .u8 (b.toNat : Int)] w (Ret2 (goeS p b) w0 w) := by
  rcases (show b.toNat ≤ 47 ∨ (48 ≤ b.toNat ∧ b.toNat ≤ 59) ∨ (60 ≤ b.toNat ∧ b.toNat ≤ 63) ∨ 64 ≤ b.toNat by omega) with k | ⟨k, k2⟩ | ⟨k, k2⟩ | k
  · have e : goeS p b = (sigS { p with st := p.st + 1 } b, []) := by
      unfold goeS
      rw [if_neg (by omega), if_neg (by omega), if_neg (by omega), if_neg (by omega), if_pos (by omega), if_neg (by omega), if_neg (by omega), if_pos (by omega)]
    rw [e]
    exact goes_9S p b au aq nu cu nq cq w0 w hr hw h0 k hj
  · by_cases he : (stpV p.ps b).2 = 0
    · cases hbad : p.bad
      · have e : goeS p b = ({ p with ps := (stpV p.ps b).1 }, []) := by
          unfold goeS
          rw [if_neg (by omega), if_neg (by omega), if_neg (by omega), if_neg (by omega), if_pos (by omega), if_neg (by omega), if_pos (by omega), if_neg (fun h => h.elim (fun h => h he) (fun h => by rw [hbad] at h; cases h))]
        rw [e]
        exact goes_9Df p b au aq nu cu nq cq w0 w hr hw h0 k k2 hk he hbad
      · have e : goeS p b = (spoS p.st, []) := by
          unfold goeS
          rw [if_neg (by omega), if_neg (by omega), if_neg (by omega), if_neg (by omega), if_pos (by omega), if_neg (by omega), if_pos (by omega), if_pos (.inr hbad)]
        rw [e]
        exact goes_9Dt p b au aq nu cu nq cq w0 w hr hw h0 k k2 hk he hbad
    · have e : goeS p b = (spoS p.st, []) := by
        unfold goeS
        rw [if_neg (by omega), if_neg (by omega), if_neg (by omega), if_neg (by omega), if_pos (by omega), if_neg (by omega), if_pos (by omega), if_pos (.inl he)]
      rw [e]
      exact goes_9D p b au aq nu cu nq cq w0 w hr hw h0 k k2 hk he
  · have e : goeS p b = (spoS p.st, []) := by
      unfold goeS
      rw [if_neg (by omega), if_neg (by omega), if_neg (by omega), if_neg (by omega), if_pos (by omega), if_pos (by omega)]
    rw [e]
    exact goes_9V p b au aq nu cu nq cq w0 w hr hw h0 k k2
  · cases hbad : p.bad
    · have e : goeS p b = ({ p with st := 11, fi := b }, []) := by
        unfold goeS
        rw [if_neg (by omega), if_neg (by omega), if_neg (by omega), if_neg (by omega), if_pos (by omega), if_neg (by omega), if_neg (by omega), if_neg (by omega)]
        unfold finS
        rw [if_neg (by omega), if_neg (by rw [hbad]; decide)]
      rw [e]
      exact goes_9Ff p b au aq nu cu nq cq w0 w hr hw h0 k hbad
    · have e : goeS p b = ({ p with st := 11 }, []) := by
        unfold goeS
        rw [if_neg (by omega), if_neg (by omega), if_neg (by omega), if_neg (by omega), if_pos (by omega), if_neg (by omega), if_neg (by omega), if_neg (by omega)]
        unfold finS
        rw [if_neg (by omega), if_pos hbad]
      rw [e]
      exact goes_9Ft p b au aq nu cu nq cq w0 w hr hw h0 k hbad
theorem goes_at10 (p : PS) (b : UInt8) (au aq : Option Addr) (nu cu nq cq : Nat) (w0 w : World) (hr : RS w0 (.slice au nu cu) (.slice aq nq cq) p) (hw : Pre w0 w) (h0 : p.st = 10) (hj : p.it.size ≤ 1000000) :
    Calls Tryz.prog 55 #[.agg (cS p (.slice au nu cu) (.slice aq nq cq)), .int .u8 (b.toNat : Int)] w (Ret2 (goeS p b) w0 w) := by
  rcases (show b.toNat ≤ 47 ∨ (48 ≤ b.toNat ∧ b.toNat ≤ 59) ∨ (60 ≤ b.toNat ∧ b.toNat ≤ 63) ∨ 64 ≤ b.toNat by omega) with k | ⟨k, k2⟩ | ⟨k, k2⟩ | k
  · have e : goeS p b = (sigS p b, []) := by
      unfold goeS
      rw [if_neg (by omega), if_neg (by omega), if_neg (by omega), if_neg (by omega), if_neg (by omega), if_pos (by omega), if_neg (by omega), if_pos (by omega)]
    rw [e]
    exact goes_10S p b au aq nu cu nq cq w0 w hr hw h0 k hj
  · have e : goeS p b = (spoS p.st, []) := by
      unfold goeS
      rw [if_neg (by omega), if_neg (by omega), if_neg (by omega), if_neg (by omega), if_neg (by omega), if_pos (by omega), if_pos (by omega)]
    rw [e]
    exact goes_10D p b au aq nu cu nq cq w0 w hr hw h0 k k2
  · have e : goeS p b = (spoS p.st, []) := by
      unfold goeS
      rw [if_neg (by omega), if_neg (by omega), if_neg (by omega), if_neg (by omega), if_neg (by omega), if_pos (by omega), if_pos (by omega)]
    rw [e]
    exact goes_10V p b au aq nu cu nq cq w0 w hr hw h0 k k2
  · cases hbad : p.bad
    · have e : goeS p b = ({ p with st := 11, fi := b }, []) := by
        unfold goeS
        rw [if_neg (by omega), if_neg (by omega), if_neg (by omega), if_neg (by omega), if_neg (by omega), if_pos (by omega), if_neg (by omega), if_neg (by omega)]
        unfold finS
        rw [if_neg (by omega), if_neg (by rw [hbad]; decide)]
      rw [e]
      exact goes_10Ff p b au aq nu cu nq cq w0 w hr hw h0 k hbad
    · have e : goeS p b = ({ p with st := 11 }, []) := by
        unfold goeS
        rw [if_neg (by omega), if_neg (by omega), if_neg (by omega), if_neg (by omega), if_neg (by omega), if_pos (by omega), if_neg (by omega), if_neg (by omega)]
        unfold finS
        rw [if_neg (by omega), if_pos hbad]
      rw [e]
      exact goes_10Ft p b au aq nu cu nq cq w0 w hr hw h0 k hbad
theorem goes_any (p : PS) (b : UInt8) (au aq : Option Addr) (nu cu nq cq : Nat) (w0 w : World) (hr : RS w0 (.slice au nu cu) (.slice aq nq cq) p) (hw : Pre w0 w) (hs : p.st = 0 ∨ p.st = 1 ∨ p.st = 2 ∨ p.st = 3 ∨ p.st = 4 ∨ p.st = 5 ∨ p.st = 8 ∨ p.st = 9 ∨ p.st = 10) (hj : p.it.size ≤ 1000000) (hk : Ks p.ps) :
    Calls Tryz.prog 55 #[.agg (cS p (.slice au nu cu) (.slice aq nq cq)), .int .u8 (b.toNat : Int)] w (Ret2 (goeS p b) w0 w) := by
  rcases hs with h | h | h | h | h | h | h | h | h
  · exact goes_at0 p b au aq nu cu nq cq w0 w hr hw h
  · exact goes_at1 p b au aq nu cu nq cq w0 w hr hw h
  · exact goes_at2 p b au aq nu cu nq cq w0 w hr hw h hj
  · exact goes_at3 p b au aq nu cu nq cq w0 w hr hw h
  · exact goes_at4 p b au aq nu cu nq cq w0 w hr hw h hj hk
  · exact goes_at5 p b au aq nu cu nq cq w0 w hr hw h hj
  · exact goes_at8 p b au aq nu cu nq cq w0 w hr hw h
  · exact goes_at9 p b au aq nu cu nq cq w0 w hr hw h hj hk
  · exact goes_at10 p b au aq nu cu nq cq w0 w hr hw h hj
end Go.Proofs.YtmboekpomjgnnaaGreatDoor.Sta
