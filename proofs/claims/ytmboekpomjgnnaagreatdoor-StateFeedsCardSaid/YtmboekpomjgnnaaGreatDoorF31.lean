/-
  StaKb
-/
import Derived.Test.YtmboekpomjgnnaaGreatDoorF29
import Derived.Test.YtmboekpomjgnnaaGreatDoorF30
namespace Go.Proofs.YtmboekpomjgnnaaGreatDoor.Sta
open Go.RowKit Utf Par

set_option maxRecDepth 100000 in
set_option maxHeartbeats 8000000 in
theorem goes_2S (p : PS) (b : UInt8) (au aq : Option Addr) (nu cu nq cq : Nat) (w0 w : World) (hr : RS w0 (.slice au nu cu) (.slice aq nq cq) p) (hw : Pre w0 w) (h0 : p.st = 2) (k : b.toNat ≤ 47) (hj : p.it.size ≤ 1000000) :
    Calls Tryz.prog 55 #[.agg (cS p (.slice au nu cu) (.slice aq nq cq)), .int .u8 (b.toNat : Int)] w (Ret2 (sigS p b, []) w0 w) := by
  have HRS := Lib.hid hr; clear hr
  have HW0 := Lib.hid hw; clear hw
  obtain ⟨st, utf, pr, fi, pp, it, tx, bad⟩ := p
  dsimp only at *
  have hst : st = 2 := by omega
  subst hst
  have d_l47 : decide ((b.toNat : Int) ≤ 47) = true := decide_eq_true (by omega)
  have d_g48 : decide ((48 : Int) ≤ (b.toNat : Int)) = false := decide_eq_false (by omega)
  have d_l59 : decide ((b.toNat : Int) ≤ 59) = true := decide_eq_true (by omega)
  have d_g60 : decide ((60 : Int) ≤ (b.toNat : Int)) = false := decide_eq_false (by omega)
  have d_l63 : decide ((b.toNat : Int) ≤ 63) = true := decide_eq_true (by omega)
  clear k h0
  unfold cS
  dsimp only at *
  have hx1 := Box.new (w.alloc (.cells #[.int .i64 2, .slice au nu cu, .int .u8 (pr.toNat : Int), .int .u8 (fi.toNat : Int), .slice aq nq cq, .string it, .string tx, .bool bad] 25)) #[.int .i64 0, .slice none 0 0, .int .u8 0, .int .u8 0, .slice none 0 0, .string ⟨#[]⟩, .string ⟨#[]⟩, .bool false] 25
  have hb1 : Below w.heap.size w ((w.alloc (.cells #[.int .i64 2, .slice au nu cu, .int .u8 (pr.toNat : Int), .int .u8 (fi.toNat : Int), .slice aq nq cq, .string it, .string tx, .bool bad] 25)).alloc (.cells #[.int .i64 0, .slice none 0 0, .int .u8 0, .int .u8 0, .slice none 0 0, .string ⟨#[]⟩, .string ⟨#[]⟩, .bool false] 25)) := up (below_box _ _) (below_box _ _)
  rw [World.size_alloc] at hx1
  have HX1 := Lib.hid hx1
  have HB1 := Lib.hid hb1
  clear hx1 hb1
  go_enter Tryz.func55, Tryz.ntmps55
  go_wp2_with (go_at_call 74; refine (signed_any ⟨2, utf, pr, fi, pp, it, tx, bad⟩ b au aq nu cu nq cq w0 _ HRS.out hj).mono ?_; rintro e w3 ⟨u, q, rfl, hv3, hb3⟩; have hf := hv3 w3 ⟨upP HW0.out (up HB1.out hb3), fun k _ _ => rfl⟩; generalize sigS ⟨2, utf, pr, fi, pp, it, tx, bad⟩ b = r at *; obtain ⟨rst, rutf, rpr, rfi, rps, rit, rtx, rbad⟩ := r; obtain ⟨Au3, cu3, hu3⟩ := hf.1.form; obtain ⟨Aq3, cq3, hq3⟩ := hf.2.form; dsimp only at hu3 hq3; subst hu3; subst hq3; clear hf; have HV3 := Lib.hid hv3; clear hv3; unfold cS; dsimp only; have hx3 := HX1.out.keep hb3; obtain ⟨z0, y0, z1, y1, z2, y2, z3, y3, z4, y4, z5, y5, z6, y6, z7, y7⟩ := cf8 hx3; have l3 := hx3.1; have HX3 := Lib.hid hx3; clear hx3)
  refine bodyPost_ret (ret_cell rfl _ _ ⟨w.heap.size + 1, 0, none⟩ _ rfl (load_par8 _ _ _ _ _ _ _ _ _ _ (box_set8 _ _ _ _ _ _ _ _ HX3.out))) rfl ?_
  exact ⟨_, _, _, rfl, fun W hW => ⟨HV3.out W (hW.down (by simp; omega) (grown_set8 _ _ _ _ _ _ _ _ _ _) (by simp)), RV.nil _⟩, below_set8 _ _ _ _ _ _ _ _ _ (up HB1.out hb3) (by omega)⟩
set_option maxRecDepth 100000 in
set_option maxHeartbeats 8000000 in
theorem goes_5S (p : PS) (b : UInt8) (au aq : Option Addr) (nu cu nq cq : Nat) (w0 w : World) (hr : RS w0 (.slice au nu cu) (.slice aq nq cq) p) (hw : Pre w0 w) (h0 : p.st = 5) (k : b.toNat ≤ 47) (hj : p.it.size ≤ 1000000) :
    Calls Tryz.prog 55 #[.agg (cS p (.slice au nu cu) (.slice aq nq cq)), .int .u8 (b.toNat : Int)] w (Ret2 (sigS p b, []) w0 w) := by
  have HRS := Lib.hid hr; clear hr
  have HW0 := Lib.hid hw; clear hw
  obtain ⟨st, utf, pr, fi, pp, it, tx, bad⟩ := p
  dsimp only at *
  have hst : st = 5 := by omega
  subst hst
  have d_l47 : decide ((b.toNat : Int) ≤ 47) = true := decide_eq_true (by omega)
  have d_g48 : decide ((48 : Int) ≤ (b.toNat : Int)) = false := decide_eq_false (by omega)
  have d_l59 : decide ((b.toNat : Int) ≤ 59) = true := decide_eq_true (by omega)
  have d_g60 : decide ((60 : Int) ≤ (b.toNat : Int)) = false := decide_eq_false (by omega)
  have d_l63 : decide ((b.toNat : Int) ≤ 63) = true := decide_eq_true (by omega)
  clear k h0
  unfold cS
  dsimp only at *
  have hx1 := Box.new (w.alloc (.cells #[.int .i64 5, .slice au nu cu, .int .u8 (pr.toNat : Int), .int .u8 (fi.toNat : Int), .slice aq nq cq, .string it, .string tx, .bool bad] 25)) #[.int .i64 0, .slice none 0 0, .int .u8 0, .int .u8 0, .slice none 0 0, .string ⟨#[]⟩, .string ⟨#[]⟩, .bool false] 25
  have hb1 : Below w.heap.size w ((w.alloc (.cells #[.int .i64 5, .slice au nu cu, .int .u8 (pr.toNat : Int), .int .u8 (fi.toNat : Int), .slice aq nq cq, .string it, .string tx, .bool bad] 25)).alloc (.cells #[.int .i64 0, .slice none 0 0, .int .u8 0, .int .u8 0, .slice none 0 0, .string ⟨#[]⟩, .string ⟨#[]⟩, .bool false] 25)) := up (below_box _ _) (below_box _ _)
  rw [World.size_alloc] at hx1
  have HX1 := Lib.hid hx1
  have HB1 := Lib.hid hb1
  clear hx1 hb1
  go_enter Tryz.func55, Tryz.ntmps55
  go_wp2_with (go_at_call 74; refine (signed_any ⟨5, utf, pr, fi, pp, it, tx, bad⟩ b au aq nu cu nq cq w0 _ HRS.out hj).mono ?_; rintro e w3 ⟨u, q, rfl, hv3, hb3⟩; have hf := hv3 w3 ⟨upP HW0.out (up HB1.out hb3), fun k _ _ => rfl⟩; generalize sigS ⟨5, utf, pr, fi, pp, it, tx, bad⟩ b = r at *; obtain ⟨rst, rutf, rpr, rfi, rps, rit, rtx, rbad⟩ := r; obtain ⟨Au3, cu3, hu3⟩ := hf.1.form; obtain ⟨Aq3, cq3, hq3⟩ := hf.2.form; dsimp only at hu3 hq3; subst hu3; subst hq3; clear hf; have HV3 := Lib.hid hv3; clear hv3; unfold cS; dsimp only; have hx3 := HX1.out.keep hb3; obtain ⟨z0, y0, z1, y1, z2, y2, z3, y3, z4, y4, z5, y5, z6, y6, z7, y7⟩ := cf8 hx3; have l3 := hx3.1; have HX3 := Lib.hid hx3; clear hx3)
  refine bodyPost_ret (ret_cell rfl _ _ ⟨w.heap.size + 1, 0, none⟩ _ rfl (load_par8 _ _ _ _ _ _ _ _ _ _ (box_set8 _ _ _ _ _ _ _ _ HX3.out))) rfl ?_
  exact ⟨_, _, _, rfl, fun W hW => ⟨HV3.out W (hW.down (by simp; omega) (grown_set8 _ _ _ _ _ _ _ _ _ _) (by simp)), RV.nil _⟩, below_set8 _ _ _ _ _ _ _ _ _ (up HB1.out hb3) (by omega)⟩
set_option maxRecDepth 100000 in
set_option maxHeartbeats 8000000 in
theorem goes_10S (p : PS) (b : UInt8) (au aq : Option Addr) (nu cu nq cq : Nat) (w0 w : World) (hr : RS w0 (.slice au nu cu) (.slice aq nq cq) p) (hw : Pre w0 w) (h0 : p.st = 10) (k : b.toNat ≤ 47) (hj : p.it.size ≤ 1000000) :
    Calls Tryz.prog 55 #[.agg (cS p (.slice au nu cu) (.slice aq nq cq)), .int .u8 (b.toNat : Int)] w (Ret2 (sigS p b, []) w0 w) := by
  have HRS := Lib.hid hr; clear hr
  have HW0 := Lib.hid hw; clear hw
  obtain ⟨st, utf, pr, fi, pp, it, tx, bad⟩ := p
  dsimp only at *
  have hst : st = 10 := by omega
  subst hst
  have d_l47 : decide ((b.toNat : Int) ≤ 47) = true := decide_eq_true (by omega)
  have d_g48 : decide ((48 : Int) ≤ (b.toNat : Int)) = false := decide_eq_false (by omega)
  have d_l59 : decide ((b.toNat : Int) ≤ 59) = true := decide_eq_true (by omega)
  have d_g60 : decide ((60 : Int) ≤ (b.toNat : Int)) = false := decide_eq_false (by omega)
  have d_l63 : decide ((b.toNat : Int) ≤ 63) = true := decide_eq_true (by omega)
  clear k h0
  unfold cS
  dsimp only at *
  have hx1 := Box.new (w.alloc (.cells #[.int .i64 10, .slice au nu cu, .int .u8 (pr.toNat : Int), .int .u8 (fi.toNat : Int), .slice aq nq cq, .string it, .string tx, .bool bad] 25)) #[.int .i64 0, .slice none 0 0, .int .u8 0, .int .u8 0, .slice none 0 0, .string ⟨#[]⟩, .string ⟨#[]⟩, .bool false] 25
  have hb1 : Below w.heap.size w ((w.alloc (.cells #[.int .i64 10, .slice au nu cu, .int .u8 (pr.toNat : Int), .int .u8 (fi.toNat : Int), .slice aq nq cq, .string it, .string tx, .bool bad] 25)).alloc (.cells #[.int .i64 0, .slice none 0 0, .int .u8 0, .int .u8 0, .slice none 0 0, .string ⟨#[]⟩, .string ⟨#[]⟩, .bool false] 25)) := up (below_box _ _) (below_box _ _)
  rw [World.size_alloc] at hx1
  have HX1 := Lib.hid hx1
  have HB1 := Lib.hid hb1
  clear hx1 hb1
  go_enter Tryz.func55, Tryz.ntmps55
  go_wp2_with (go_at_call 74; refine (signed_any ⟨10, utf, pr, fi, pp, it, tx, bad⟩ b au aq nu cu nq cq w0 _ HRS.out hj).mono ?_; rintro e w3 ⟨u, q, rfl, hv3, hb3⟩; have hf := hv3 w3 ⟨upP HW0.out (up HB1.out hb3), fun k _ _ => rfl⟩; generalize sigS ⟨10, utf, pr, fi, pp, it, tx, bad⟩ b = r at *; obtain ⟨rst, rutf, rpr, rfi, rps, rit, rtx, rbad⟩ := r; obtain ⟨Au3, cu3, hu3⟩ := hf.1.form; obtain ⟨Aq3, cq3, hq3⟩ := hf.2.form; dsimp only at hu3 hq3; subst hu3; subst hq3; clear hf; have HV3 := Lib.hid hv3; clear hv3; unfold cS; dsimp only; have hx3 := HX1.out.keep hb3; obtain ⟨z0, y0, z1, y1, z2, y2, z3, y3, z4, y4, z5, y5, z6, y6, z7, y7⟩ := cf8 hx3; have l3 := hx3.1; have HX3 := Lib.hid hx3; clear hx3)
  refine bodyPost_ret (ret_cell rfl _ _ ⟨w.heap.size + 1, 0, none⟩ _ rfl (load_par8 _ _ _ _ _ _ _ _ _ _ (box_set8 _ _ _ _ _ _ _ _ HX3.out))) rfl ?_
  exact ⟨_, _, _, rfl, fun W hW => ⟨HV3.out W (hW.down (by simp; omega) (grown_set8 _ _ _ _ _ _ _ _ _ _) (by simp)), RV.nil _⟩, below_set8 _ _ _ _ _ _ _ _ _ (up HB1.out hb3) (by omega)⟩
set_option maxRecDepth 100000 in
set_option maxHeartbeats 8000000 in
theorem goes_1S (p : PS) (b : UInt8) (au aq : Option Addr) (nu cu nq cq : Nat) (w0 w : World) (hr : RS w0 (.slice au nu cu) (.slice aq nq cq) p) (hw : Pre w0 w) (h0 : p.st = 1) (k : b.toNat ≤ 47) :
    Calls Tryz.prog 55 #[.agg (cS p (.slice au nu cu) (.slice aq nq cq)), .int .u8 (b.toNat : Int)] w (Ret2 (escS b) w0 w) := by
  have HRS := Lib.hid hr; clear hr
  have HW0 := Lib.hid hw; clear hw
  obtain ⟨st, utf, pr, fi, pp, it, tx, bad⟩ := p
  dsimp only at *
  have hst : st = 1 := by omega
  subst hst
  have d_l47 : decide ((b.toNat : Int) ≤ 47) = true := decide_eq_true (by omega)
  have d_g48 : decide ((48 : Int) ≤ (b.toNat : Int)) = false := decide_eq_false (by omega)
  have d_l59 : decide ((b.toNat : Int) ≤ 59) = true := decide_eq_true (by omega)
  have d_g60 : decide ((60 : Int) ≤ (b.toNat : Int)) = false := decide_eq_false (by omega)
  have d_l63 : decide ((b.toNat : Int) ≤ 63) = true := decide_eq_true (by omega)
  clear k h0
  unfold cS
  dsimp only at *
  have hx1 := Box.new (w.alloc (.cells #[.int .i64 1, .slice au nu cu, .int .u8 (pr.toNat : Int), .int .u8 (fi.toNat : Int), .slice aq nq cq, .string it, .string tx, .bool bad] 25)) #[.int .i64 0, .slice none 0 0, .int .u8 0, .int .u8 0, .slice none 0 0, .string ⟨#[]⟩, .string ⟨#[]⟩, .bool false] 25
  have hb1 : Below w.heap.size w ((w.alloc (.cells #[.int .i64 1, .slice au nu cu, .int .u8 (pr.toNat : Int), .int .u8 (fi.toNat : Int), .slice aq nq cq, .string it, .string tx, .bool bad] 25)).alloc (.cells #[.int .i64 0, .slice none 0 0, .int .u8 0, .int .u8 0, .slice none 0 0, .string ⟨#[]⟩, .string ⟨#[]⟩, .bool false] 25)) := up (below_box _ _) (below_box _ _)
  rw [World.size_alloc] at hx1
  have HX1 := Lib.hid hx1
  have HB1 := Lib.hid hb1
  clear hx1 hb1
  go_enter Tryz.func55, Tryz.ntmps55
  go_wp2_with (go_at_call 73; refine (escape_any b w0 _).mono ?_; rintro e w3 ⟨u, q, v, rfl, hv3, hb3⟩; have hf := hv3 w3 ⟨upP HW0.out (up HB1.out hb3), fun k _ _ => rfl⟩; generalize escS b = r at *; obtain ⟨⟨rst, rutf, rpr, rfi, rps, rit, rtx, rbad⟩, rl⟩ := r; obtain ⟨Au3, cu3, hu3⟩ := hf.1.1.form; obtain ⟨Aq3, cq3, hq3⟩ := hf.1.2.form; obtain ⟨Av3, cv3, hw3⟩ := hf.2.form; dsimp only at hu3 hq3 hw3; subst hu3; subst hq3; subst hw3; clear hf; have HV3 := Lib.hid hv3; clear hv3; unfold cS; dsimp only; have hx3 := HX1.out.keep hb3; obtain ⟨z0, y0, z1, y1, z2, y2, z3, y3, z4, y4, z5, y5, z6, y6, z7, y7⟩ := cf8 hx3; have l3 := hx3.1; have HX3 := Lib.hid hx3; clear hx3)
  refine bodyPost_ret (ret_cell rfl _ _ ⟨w.heap.size + 1, 0, none⟩ _ rfl (load_par8 _ _ _ _ _ _ _ _ _ _ (box_set8 _ _ _ _ _ _ _ _ HX3.out))) rfl ?_
  exact ⟨_, _, _, rfl, fun W hW => HV3.out W (hW.down (by simp; omega) (grown_set8 _ _ _ _ _ _ _ _ _ _) (by simp)), below_set8 _ _ _ _ _ _ _ _ _ (up HB1.out hb3) (by omega)⟩
set_option maxRecDepth 100000 in
set_option maxHeartbeats 8000000 in
theorem goes_1D (p : PS) (b : UInt8) (au aq : Option Addr) (nu cu nq cq : Nat) (w0 w : World) (hr : RS w0 (.slice au nu cu) (.slice aq nq cq) p) (hw : Pre w0 w) (h0 : p.st = 1) (k : 48 ≤ b.toNat) (k2 : b.toNat ≤ 59) :
    Calls Tryz.prog 55 #[.agg (cS p (.slice au nu cu) (.slice aq nq cq)), .int .u8 (b.toNat : Int)] w (Ret2 (escS b) w0 w) := by
  have HRS := Lib.hid hr; clear hr
  have HW0 := Lib.hid hw; clear hw
  obtain ⟨st, utf, pr, fi, pp, it, tx, bad⟩ := p
  dsimp only at *
  have hst : st = 1 := by omega
  subst hst
  have d_l47 : decide ((b.toNat : Int) ≤ 47) = false := decide_eq_false (by omega)
  have d_g48 : decide ((48 : Int) ≤ (b.toNat : Int)) = true := decide_eq_true (by omega)
  have d_l59 : decide ((b.toNat : Int) ≤ 59) = true := decide_eq_true (by omega)
  have d_g60 : decide ((60 : Int) ≤ (b.toNat : Int)) = false := decide_eq_false (by omega)
  have d_l63 : decide ((b.toNat : Int) ≤ 63) = true := decide_eq_true (by omega)
  clear k k2 h0
  unfold cS
  dsimp only at *
  have hx1 := Box.new (w.alloc (.cells #[.int .i64 1, .slice au nu cu, .int .u8 (pr.toNat : Int), .int .u8 (fi.toNat : Int), .slice aq nq cq, .string it, .string tx, .bool bad] 25)) #[.int .i64 0, .slice none 0 0, .int .u8 0, .int .u8 0, .slice none 0 0, .string ⟨#[]⟩, .string ⟨#[]⟩, .bool false] 25
  have hb1 : Below w.heap.size w ((w.alloc (.cells #[.int .i64 1, .slice au nu cu, .int .u8 (pr.toNat : Int), .int .u8 (fi.toNat : Int), .slice aq nq cq, .string it, .string tx, .bool bad] 25)).alloc (.cells #[.int .i64 0, .slice none 0 0, .int .u8 0, .int .u8 0, .slice none 0 0, .string ⟨#[]⟩, .string ⟨#[]⟩, .bool false] 25)) := up (below_box _ _) (below_box _ _)
  rw [World.size_alloc] at hx1
  have HX1 := Lib.hid hx1
  have HB1 := Lib.hid hb1
  clear hx1 hb1
  go_enter Tryz.func55, Tryz.ntmps55
  go_wp2_with (go_at_call 73; refine (escape_any b w0 _).mono ?_; rintro e w3 ⟨u, q, v, rfl, hv3, hb3⟩; have hf := hv3 w3 ⟨upP HW0.out (up HB1.out hb3), fun k _ _ => rfl⟩; generalize escS b = r at *; obtain ⟨⟨rst, rutf, rpr, rfi, rps, rit, rtx, rbad⟩, rl⟩ := r; obtain ⟨Au3, cu3, hu3⟩ := hf.1.1.form; obtain ⟨Aq3, cq3, hq3⟩ := hf.1.2.form; obtain ⟨Av3, cv3, hw3⟩ := hf.2.form; dsimp only at hu3 hq3 hw3; subst hu3; subst hq3; subst hw3; clear hf; have HV3 := Lib.hid hv3; clear hv3; unfold cS; dsimp only; have hx3 := HX1.out.keep hb3; obtain ⟨z0, y0, z1, y1, z2, y2, z3, y3, z4, y4, z5, y5, z6, y6, z7, y7⟩ := cf8 hx3; have l3 := hx3.1; have HX3 := Lib.hid hx3; clear hx3)
  refine bodyPost_ret (ret_cell rfl _ _ ⟨w.heap.size + 1, 0, none⟩ _ rfl (load_par8 _ _ _ _ _ _ _ _ _ _ (box_set8 _ _ _ _ _ _ _ _ HX3.out))) rfl ?_
  exact ⟨_, _, _, rfl, fun W hW => HV3.out W (hW.down (by simp; omega) (grown_set8 _ _ _ _ _ _ _ _ _ _) (by simp)), below_set8 _ _ _ _ _ _ _ _ _ (up HB1.out hb3) (by omega)⟩
set_option maxRecDepth 100000 in
set_option maxHeartbeats 8000000 in
theorem goes_1V (p : PS) (b : UInt8) (au aq : Option Addr) (nu cu nq cq : Nat) (w0 w : World) (hr : RS w0 (.slice au nu cu) (.slice aq nq cq) p) (hw : Pre w0 w) (h0 : p.st = 1) (k : 60 ≤ b.toNat) (k2 : b.toNat ≤ 63) :
    Calls Tryz.prog 55 #[.agg (cS p (.slice au nu cu) (.slice aq nq cq)), .int .u8 (b.toNat : Int)] w (Ret2 (escS b) w0 w) := by
  have HRS := Lib.hid hr; clear hr
  have HW0 := Lib.hid hw; clear hw
  obtain ⟨st, utf, pr, fi, pp, it, tx, bad⟩ := p
  dsimp only at *
  have hst : st = 1 := by omega
  subst hst
  have d_l47 : decide ((b.toNat : Int) ≤ 47) = false := decide_eq_false (by omega)
  have d_g48 : decide ((48 : Int) ≤ (b.toNat : Int)) = true := decide_eq_true (by omega)
  have d_l59 : decide ((b.toNat : Int) ≤ 59) = false := decide_eq_false (by omega)
  have d_g60 : decide ((60 : Int) ≤ (b.toNat : Int)) = true := decide_eq_true (by omega)
  have d_l63 : decide ((b.toNat : Int) ≤ 63) = true := decide_eq_true (by omega)
  clear k k2 h0
  unfold cS
  dsimp only at *
  have hx1 := Box.new (w.alloc (.cells #[.int .i64 1, .slice au nu cu, .int .u8 (pr.toNat : Int), .int .u8 (fi.toNat : Int), .slice aq nq cq, .string it, .string tx, .bool bad] 25)) #[.int .i64 0, .slice none 0 0, .int .u8 0, .int .u8 0, .slice none 0 0, .string ⟨#[]⟩, .string ⟨#[]⟩, .bool false] 25
  have hb1 : Below w.heap.size w ((w.alloc (.cells #[.int .i64 1, .slice au nu cu, .int .u8 (pr.toNat : Int), .int .u8 (fi.toNat : Int), .slice aq nq cq, .string it, .string tx, .bool bad] 25)).alloc (.cells #[.int .i64 0, .slice none 0 0, .int .u8 0, .int .u8 0, .slice none 0 0, .string ⟨#[]⟩, .string ⟨#[]⟩, .bool false] 25)) := up (below_box _ _) (below_box _ _)
  rw [World.size_alloc] at hx1
  have HX1 := Lib.hid hx1
  have HB1 := Lib.hid hb1
  clear hx1 hb1
  go_enter Tryz.func55, Tryz.ntmps55
  go_wp2_with (go_at_call 73; refine (escape_any b w0 _).mono ?_; rintro e w3 ⟨u, q, v, rfl, hv3, hb3⟩; have hf := hv3 w3 ⟨upP HW0.out (up HB1.out hb3), fun k _ _ => rfl⟩; generalize escS b = r at *; obtain ⟨⟨rst, rutf, rpr, rfi, rps, rit, rtx, rbad⟩, rl⟩ := r; obtain ⟨Au3, cu3, hu3⟩ := hf.1.1.form; obtain ⟨Aq3, cq3, hq3⟩ := hf.1.2.form; obtain ⟨Av3, cv3, hw3⟩ := hf.2.form; dsimp only at hu3 hq3 hw3; subst hu3; subst hq3; subst hw3; clear hf; have HV3 := Lib.hid hv3; clear hv3; unfold cS; dsimp only; have hx3 := HX1.out.keep hb3; obtain ⟨z0, y0, z1, y1, z2, y2, z3, y3, z4, y4, z5, y5, z6, y6, z7, y7⟩ := cf8 hx3; have l3 := hx3.1; have HX3 := Lib.hid hx3; clear hx3)
  refine bodyPost_ret (ret_cell rfl _ _ ⟨w.heap.size + 1, 0, none⟩ _ rfl (load_par8 _ _ _ _ _ _ _ _ _ _ (box_set8 _ _ _ _ _ _ _ _ HX3.out))) rfl ?_
  exact ⟨_, _, _, rfl, fun W hW => HV3.out W (hW.down (by simp; omega) (grown_set8 _ _ _ _ _ _ _ _ _ _) (by simp)), below_set8 _ _ _ _ _ _ _ _ _ (up HB1.out hb3) (by omega)⟩
set_option maxRecDepth 100000 in
set_option maxHeartbeats 8000000 in
theorem goes_1F (p : PS) (b : UInt8) (au aq : Option Addr) (nu cu nq cq : Nat) (w0 w : World) (hr : RS w0 (.slice au nu cu) (.slice aq nq cq) p) (hw : Pre w0 w) (h0 : p.st = 1) (k : 64 ≤ b.toNat) :
    Calls Tryz.prog 55 #[.agg (cS p (.slice au nu cu) (.slice aq nq cq)), .int .u8 (b.toNat : Int)] w (Ret2 (escS b) w0 w) := by
  have HRS := Lib.hid hr; clear hr
  have HW0 := Lib.hid hw; clear hw
  obtain ⟨st, utf, pr, fi, pp, it, tx, bad⟩ := p
  dsimp only at *
  have hst : st = 1 := by omega
  subst hst
  have d_l47 : decide ((b.toNat : Int) ≤ 47) = false := decide_eq_false (by omega)
  have d_g48 : decide ((48 : Int) ≤ (b.toNat : Int)) = true := decide_eq_true (by omega)
  have d_l59 : decide ((b.toNat : Int) ≤ 59) = false := decide_eq_false (by omega)
  have d_g60 : decide ((60 : Int) ≤ (b.toNat : Int)) = true := decide_eq_true (by omega)
  have d_l63 : decide ((b.toNat : Int) ≤ 63) = false := decide_eq_false (by omega)
  clear k h0
  unfold cS
  dsimp only at *
  have hx1 := Box.new (w.alloc (.cells #[.int .i64 1, .slice au nu cu, .int .u8 (pr.toNat : Int), .int .u8 (fi.toNat : Int), .slice aq nq cq, .string it, .string tx, .bool bad] 25)) #[.int .i64 0, .slice none 0 0, .int .u8 0, .int .u8 0, .slice none 0 0, .string ⟨#[]⟩, .string ⟨#[]⟩, .bool false] 25
  have hb1 : Below w.heap.size w ((w.alloc (.cells #[.int .i64 1, .slice au nu cu, .int .u8 (pr.toNat : Int), .int .u8 (fi.toNat : Int), .slice aq nq cq, .string it, .string tx, .bool bad] 25)).alloc (.cells #[.int .i64 0, .slice none 0 0, .int .u8 0, .int .u8 0, .slice none 0 0, .string ⟨#[]⟩, .string ⟨#[]⟩, .bool false] 25)) := up (below_box _ _) (below_box _ _)
  rw [World.size_alloc] at hx1
  have HX1 := Lib.hid hx1
  have HB1 := Lib.hid hb1
  clear hx1 hb1
  go_enter Tryz.func55, Tryz.ntmps55
  go_wp2_with (go_at_call 73; refine (escape_any b w0 _).mono ?_; rintro e w3 ⟨u, q, v, rfl, hv3, hb3⟩; have hf := hv3 w3 ⟨upP HW0.out (up HB1.out hb3), fun k _ _ => rfl⟩; generalize escS b = r at *; obtain ⟨⟨rst, rutf, rpr, rfi, rps, rit, rtx, rbad⟩, rl⟩ := r; obtain ⟨Au3, cu3, hu3⟩ := hf.1.1.form; obtain ⟨Aq3, cq3, hq3⟩ := hf.1.2.form; obtain ⟨Av3, cv3, hw3⟩ := hf.2.form; dsimp only at hu3 hq3 hw3; subst hu3; subst hq3; subst hw3; clear hf; have HV3 := Lib.hid hv3; clear hv3; unfold cS; dsimp only; have hx3 := HX1.out.keep hb3; obtain ⟨z0, y0, z1, y1, z2, y2, z3, y3, z4, y4, z5, y5, z6, y6, z7, y7⟩ := cf8 hx3; have l3 := hx3.1; have HX3 := Lib.hid hx3; clear hx3)
  refine bodyPost_ret (ret_cell rfl _ _ ⟨w.heap.size + 1, 0, none⟩ _ rfl (load_par8 _ _ _ _ _ _ _ _ _ _ (box_set8 _ _ _ _ _ _ _ _ HX3.out))) rfl ?_
  exact ⟨_, _, _, rfl, fun W hW => HV3.out W (hW.down (by simp; omega) (grown_set8 _ _ _ _ _ _ _ _ _ _) (by simp)), below_set8 _ _ _ _ _ _ _ _ _ (up HB1.out hb3) (by omega)⟩
set_option maxRecDepth 100000 in
set_option maxHeartbeats 8000000 in
theorem goes_0S (p : PS) (b : UInt8) (au aq : Option Addr) (nu cu nq cq : Nat) (w0 w : World) (hr : RS w0 (.slice au nu cu) (.slice aq nq cq) p) (hw : Pre w0 w) (h0 : p.st = 0) (k : b.toNat ≤ 47) :
    Calls Tryz.prog 55 #[.agg (cS p (.slice au nu cu) (.slice aq nq cq)), .int .u8 (b.toNat : Int)] w (Ret2 (p, [prE b.toNat]) w0 w) := by
  have HRS := Lib.hid hr; clear hr
  have HW0 := Lib.hid hw; clear hw
  obtain ⟨st, utf, pr, fi, pp, it, tx, bad⟩ := p
  dsimp only at *
  have hst : st = 0 := by omega
  subst hst
  have d_l47 : decide ((b.toNat : Int) ≤ 47) = true := decide_eq_true (by omega)
  have d_g48 : decide ((48 : Int) ≤ (b.toNat : Int)) = false := decide_eq_false (by omega)
  have d_l59 : decide ((b.toNat : Int) ≤ 59) = true := decide_eq_true (by omega)
  have d_g60 : decide ((60 : Int) ≤ (b.toNat : Int)) = false := decide_eq_false (by omega)
  have d_l63 : decide ((b.toNat : Int) ≤ 63) = true := decide_eq_true (by omega)
  clear k h0
  unfold cS
  dsimp only at *
  have hx1 := Box.new (w.alloc (.cells #[.int .i64 0, .slice au nu cu, .int .u8 (pr.toNat : Int), .int .u8 (fi.toNat : Int), .slice aq nq cq, .string it, .string tx, .bool bad] 25)) #[.int .i64 0, .slice none 0 0, .int .u8 0, .int .u8 0, .slice none 0 0, .string ⟨#[]⟩, .string ⟨#[]⟩, .bool false] 25
  have hb1 : Below w.heap.size w ((w.alloc (.cells #[.int .i64 0, .slice au nu cu, .int .u8 (pr.toNat : Int), .int .u8 (fi.toNat : Int), .slice aq nq cq, .string it, .string tx, .bool bad] 25)).alloc (.cells #[.int .i64 0, .slice none 0 0, .int .u8 0, .int .u8 0, .slice none 0 0, .string ⟨#[]⟩, .string ⟨#[]⟩, .bool false] 25)) := up (below_box _ _) (below_box _ _)
  rw [World.size_alloc] at hx1
  have HX1 := Lib.hid hx1
  have HB1 := Lib.hid hb1
  clear hx1 hb1
  go_enter Tryz.func55, Tryz.ntmps55
  go_wp2
  have hwr : wrap64 (b.toNat : Int) = (b.toNat : Int) := by have := b.toNat_lt; unfold wrap64; omega
  rw [hwr]
  have hbx := (Box.new (w.alloc (.cells #[.int .i64 0, .slice au nu cu, .int .u8 (pr.toNat : Int), .int .u8 (fi.toNat : Int), .slice aq nq cq, .string it, .string tx, .bool bad] 25)) #[.int .i64 0, .slice au nu cu, .int .u8 (pr.toNat : Int), .int .u8 (fi.toNat : Int), .slice aq nq cq, .string it, .string tx, .bool bad] 25).alloc (.cells #[.int .i64 1, .int .i64 (b.toNat : Int), .int .u8 0, .int .u8 0, .slice none 0 0, .string ⟨#[]⟩, .string ⟨#[]⟩] 27)
  rw [World.size_alloc] at hbx
  have hev := RdE.one ((w.alloc (.cells #[.int .i64 0, .slice au nu cu, .int .u8 (pr.toNat : Int), .int .u8 (fi.toNat : Int), .slice aq nq cq, .string it, .string tx, .bool bad] 25)).alloc (.cells #[.int .i64 0, .slice au nu cu, .int .u8 (pr.toNat : Int), .int .u8 (fi.toNat : Int), .slice aq nq cq, .string it, .string tx, .bool bad] 25)) ⟨prE b.toNat, none, 0, 0⟩ 27
  rw [World.size_alloc, World.size_alloc] at hev
  refine bodyPost_ret (ret_cell rfl _ _ ⟨w.heap.size + 1, 0, none⟩ _ rfl (load_par8 _ _ _ _ _ _ _ _ _ _ hbx)) rfl ?_
  exact ⟨_, _, _, rfl, fun W hW => ⟨HRS.out.keepP hW.1, RV.mk1 (hev.at (by simp) (hW.2 _ (by omega) (by simp))) (RL.nil _)⟩, up (up (below_box _ _) (below_box _ _)) (below_box _ _)⟩
set_option maxRecDepth 100000 in
set_option maxHeartbeats 8000000 in
theorem goes_0D (p : PS) (b : UInt8) (au aq : Option Addr) (nu cu nq cq : Nat) (w0 w : World) (hr : RS w0 (.slice au nu cu) (.slice aq nq cq) p) (hw : Pre w0 w) (h0 : p.st = 0) (k : 48 ≤ b.toNat) (k2 : b.toNat ≤ 59) :
    Calls Tryz.prog 55 #[.agg (cS p (.slice au nu cu) (.slice aq nq cq)), .int .u8 (b.toNat : Int)] w (Ret2 (p, [prE b.toNat]) w0 w) := by
  have HRS := Lib.hid hr; clear hr
  have HW0 := Lib.hid hw; clear hw
  obtain ⟨st, utf, pr, fi, pp, it, tx, bad⟩ := p
  dsimp only at *
  have hst : st = 0 := by omega
  subst hst
  have d_l47 : decide ((b.toNat : Int) ≤ 47) = false := decide_eq_false (by omega)
  have d_g48 : decide ((48 : Int) ≤ (b.toNat : Int)) = true := decide_eq_true (by omega)
  have d_l59 : decide ((b.toNat : Int) ≤ 59) = true := decide_eq_true (by omega)
  have d_g60 : decide ((60 : Int) ≤ (b.toNat : Int)) = false := decide_eq_false (by omega)
  have d_l63 : decide ((b.toNat : Int) ≤ 63) = true := decide_eq_true (by omega)
  clear k k2 h0
  unfold cS
  dsimp only at *
  have hx1 := Box.new (w.alloc (.cells #[.int .i64 0, .slice au nu cu, .int .u8 (pr.toNat : Int), .int .u8 (fi.toNat : Int), .slice aq nq cq, .string it, .string tx, .bool bad] 25)) #[.int .i64 0, .slice none 0 0, .int .u8 0, .int .u8 0, .slice none 0 0, .string ⟨#[]⟩, .string ⟨#[]⟩, .bool false] 25
  have hb1 : Below w.heap.size w ((w.alloc (.cells #[.int .i64 0, .slice au nu cu, .int .u8 (pr.toNat : Int), .int .u8 (fi.toNat : Int), .slice aq nq cq, .string it, .string tx, .bool bad] 25)).alloc (.cells #[.int .i64 0, .slice none 0 0, .int .u8 0, .int .u8 0, .slice none 0 0, .string ⟨#[]⟩, .string ⟨#[]⟩, .bool false] 25)) := up (below_box _ _) (below_box _ _)
  rw [World.size_alloc] at hx1
  have HX1 := Lib.hid hx1
  have HB1 := Lib.hid hb1
  clear hx1 hb1
  go_enter Tryz.func55, Tryz.ntmps55
  go_wp2
  have hwr : wrap64 (b.toNat : Int) = (b.toNat : Int) := by have := b.toNat_lt; unfold wrap64; omega
  rw [hwr]
  have hbx := (Box.new (w.alloc (.cells #[.int .i64 0, .slice au nu cu, .int .u8 (pr.toNat : Int), .int .u8 (fi.toNat : Int), .slice aq nq cq, .string it, .string tx, .bool bad] 25)) #[.int .i64 0, .slice au nu cu, .int .u8 (pr.toNat : Int), .int .u8 (fi.toNat : Int), .slice aq nq cq, .string it, .string tx, .bool bad] 25).alloc (.cells #[.int .i64 1, .int .i64 (b.toNat : Int), .int .u8 0, .int .u8 0, .slice none 0 0, .string ⟨#[]⟩, .string ⟨#[]⟩] 27)
  rw [World.size_alloc] at hbx
  have hev := RdE.one ((w.alloc (.cells #[.int .i64 0, .slice au nu cu, .int .u8 (pr.toNat : Int), .int .u8 (fi.toNat : Int), .slice aq nq cq, .string it, .string tx, .bool bad] 25)).alloc (.cells #[.int .i64 0, .slice au nu cu, .int .u8 (pr.toNat : Int), .int .u8 (fi.toNat : Int), .slice aq nq cq, .string it, .string tx, .bool bad] 25)) ⟨prE b.toNat, none, 0, 0⟩ 27
  rw [World.size_alloc, World.size_alloc] at hev
  refine bodyPost_ret (ret_cell rfl _ _ ⟨w.heap.size + 1, 0, none⟩ _ rfl (load_par8 _ _ _ _ _ _ _ _ _ _ hbx)) rfl ?_
  exact ⟨_, _, _, rfl, fun W hW => ⟨HRS.out.keepP hW.1, RV.mk1 (hev.at (by simp) (hW.2 _ (by omega) (by simp))) (RL.nil _)⟩, up (up (below_box _ _) (below_box _ _)) (below_box _ _)⟩
set_option maxRecDepth 100000 in
set_option maxHeartbeats 8000000 in
theorem goes_0V (p : PS) (b : UInt8) (au aq : Option Addr) (nu cu nq cq : Nat) (w0 w : World) (hr : RS w0 (.slice au nu cu) (.slice aq nq cq) p) (hw : Pre w0 w) (h0 : p.st = 0) (k : 60 ≤ b.toNat) (k2 : b.toNat ≤ 63) :
    Calls Tryz.prog 55 #[.agg (cS p (.slice au nu cu) (.slice aq nq cq)), .int .u8 (b.toNat : Int)] w (Ret2 (p, [prE b.toNat]) w0 w) := by
  have HRS := Lib.hid hr; clear hr
  have HW0 := Lib.hid hw; clear hw
  obtain ⟨st, utf, pr, fi, pp, it, tx, bad⟩ := p
  dsimp only at *
  have hst : st = 0 := by omega
  subst hst
  have d_l47 : decide ((b.toNat : Int) ≤ 47) = false := decide_eq_false (by omega)
  have d_g48 : decide ((48 : Int) ≤ (b.toNat : Int)) = true := decide_eq_true (by omega)
  have d_l59 : decide ((b.toNat : Int) ≤ 59) = false := decide_eq_false (by omega)
  have d_g60 : decide ((60 : Int) ≤ (b.toNat : Int)) = true := decide_eq_true (by omega)
  have d_l63 : decide ((b.toNat : Int) ≤ 63) = true := decide_eq_true (by omega)
  clear k k2 h0
  unfold cS
  dsimp only at *
  have hx1 := Box.new (w.alloc (.cells #[.int .i64 0, .slice au nu cu, .int .u8 (pr.toNat : Int), .int .u8 (fi.toNat : Int), .slice aq nq cq, .string it, .string tx, .bool bad] 25)) #[.int .i64 0, .slice none 0 0, .int .u8 0, .int .u8 0, .slice none 0 0, .string ⟨#[]⟩, .string ⟨#[]⟩, .bool false] 25
  have hb1 : Below w.heap.size w ((w.alloc (.cells #[.int .i64 0, .slice au nu cu, .int .u8 (pr.toNat : Int), .int .u8 (fi.toNat : Int), .slice aq nq cq, .string it, .string tx, .bool bad] 25)).alloc (.cells #[.int .i64 0, .slice none 0 0, .int .u8 0, .int .u8 0, .slice none 0 0, .string ⟨#[]⟩, .string ⟨#[]⟩, .bool false] 25)) := up (below_box _ _) (below_box _ _)
  rw [World.size_alloc] at hx1
  have HX1 := Lib.hid hx1
  have HB1 := Lib.hid hb1
  clear hx1 hb1
  go_enter Tryz.func55, Tryz.ntmps55
  go_wp2
  have hwr : wrap64 (b.toNat : Int) = (b.toNat : Int) := by have := b.toNat_lt; unfold wrap64; omega
  rw [hwr]
  have hbx := (Box.new (w.alloc (.cells #[.int .i64 0, .slice au nu cu, .int .u8 (pr.toNat : Int), .int .u8 (fi.toNat : Int), .slice aq nq cq, .string it, .string tx, .bool bad] 25)) #[.int .i64 0, .slice au nu cu, .int .u8 (pr.toNat : Int), .int .u8 (fi.toNat : Int), .slice aq nq cq, .string it, .string tx, .bool bad] 25).alloc (.cells #[.int .i64 1, .int .i64 (b.toNat : Int), .int .u8 0, .int .u8 0, .slice none 0 0, .string ⟨#[]⟩, .string ⟨#[]⟩] 27)
  rw [World.size_alloc] at hbx
  have hev := RdE.one ((w.alloc (.cells #[.int .i64 0, .slice au nu cu, .int .u8 (pr.toNat : Int), .int .u8 (fi.toNat : Int), .slice aq nq cq, .string it, .string tx, .bool bad] 25)).alloc (.cells #[.int .i64 0, .slice au nu cu, .int .u8 (pr.toNat : Int), .int .u8 (fi.toNat : Int), .slice aq nq cq, .string it, .string tx, .bool bad] 25)) ⟨prE b.toNat, none, 0, 0⟩ 27
  rw [World.size_alloc, World.size_alloc] at hev
  refine bodyPost_ret (ret_cell rfl _ _ ⟨w.heap.size + 1, 0, none⟩ _ rfl (load_par8 _ _ _ _ _ _ _ _ _ _ hbx)) rfl ?_
  exact ⟨_, _, _, rfl, fun W hW => ⟨HRS.out.keepP hW.1, RV.mk1 (hev.at (by simp) (hW.2 _ (by omega) (by simp))) (RL.nil _)⟩, up (up (below_box _ _) (below_box _ _)) (below_box _ _)⟩
set_option maxRecDepth 100000 in
set_option maxHeartbeats 8000000 in
theorem goes_0F (p : PS) (b : UInt8) (au aq : Option Addr) (nu cu nq cq : Nat) (w0 w : World) (hr : RS w0 (.slice au nu cu) (.slice aq nq cq) p) (hw : Pre w0 w) (h0 : p.st = 0) (k : 64 ≤ b.toNat) :
    Calls Tryz.prog 55 #[.agg (cS p (.slice au nu cu) (.slice aq nq cq)), .int .u8 (b.toNat : Int)] w (Ret2 (p, [prE b.toNat]) w0 w) := by
  have HRS := Lib.hid hr; clear hr
  have HW0 := Lib.hid hw; clear hw
  obtain ⟨st, utf, pr, fi, pp, it, tx, bad⟩ := p
  dsimp only at *
  have hst : st = 0 := by omega
  subst hst
  have d_l47 : decide ((b.toNat : Int) ≤ 47) = false := decide_eq_false (by omega)
  have d_g48 : decide ((48 : Int) ≤ (b.toNat : Int)) = true := decide_eq_true (by omega)
  have d_l59 : decide ((b.toNat : Int) ≤ 59) = false := decide_eq_false (by omega)
  have d_g60 : decide ((60 : Int) ≤ (b.toNat : Int)) = true := decide_eq_true (by omega)
  have d_l63 : decide ((b.toNat : Int) ≤ 63) = false := decide_eq_false (by omega)
  clear k h0
  unfold cS
  dsimp only at *
  have hx1 := Box.new (w.alloc (.cells #[.int .i64 0, .slice au nu cu, .int .u8 (pr.toNat : Int), .int .u8 (fi.toNat : Int), .slice aq nq cq, .string it, .string tx, .bool bad] 25)) #[.int .i64 0, .slice none 0 0, .int .u8 0, .int .u8 0, .slice none 0 0, .string ⟨#[]⟩, .string ⟨#[]⟩, .bool false] 25
  have hb1 : Below w.heap.size w ((w.alloc (.cells #[.int .i64 0, .slice au nu cu, .int .u8 (pr.toNat : Int), .int .u8 (fi.toNat : Int), .slice aq nq cq, .string it, .string tx, .bool bad] 25)).alloc (.cells #[.int .i64 0, .slice none 0 0, .int .u8 0, .int .u8 0, .slice none 0 0, .string ⟨#[]⟩, .string ⟨#[]⟩, .bool false] 25)) := up (below_box _ _) (below_box _ _)
  rw [World.size_alloc] at hx1
  have HX1 := Lib.hid hx1
  have HB1 := Lib.hid hb1
  clear hx1 hb1
  go_enter Tryz.func55, Tryz.ntmps55
  go_wp2
  have hwr : wrap64 (b.toNat : Int) = (b.toNat : Int) := by have := b.toNat_lt; unfold wrap64; omega
  rw [hwr]
  have hbx := (Box.new (w.alloc (.cells #[.int .i64 0, .slice au nu cu, .int .u8 (pr.toNat : Int), .int .u8 (fi.toNat : Int), .slice aq nq cq, .string it, .string tx, .bool bad] 25)) #[.int .i64 0, .slice au nu cu, .int .u8 (pr.toNat : Int), .int .u8 (fi.toNat : Int), .slice aq nq cq, .string it, .string tx, .bool bad] 25).alloc (.cells #[.int .i64 1, .int .i64 (b.toNat : Int), .int .u8 0, .int .u8 0, .slice none 0 0, .string ⟨#[]⟩, .string ⟨#[]⟩] 27)
  rw [World.size_alloc] at hbx
  have hev := RdE.one ((w.alloc (.cells #[.int .i64 0, .slice au nu cu, .int .u8 (pr.toNat : Int), .int .u8 (fi.toNat : Int), .slice aq nq cq, .string it, .string tx, .bool bad] 25)).alloc (.cells #[.int .i64 0, .slice au nu cu, .int .u8 (pr.toNat : Int), .int .u8 (fi.toNat : Int), .slice aq nq cq, .string it, .string tx, .bool bad] 25)) ⟨prE b.toNat, none, 0, 0⟩ 27
  rw [World.size_alloc, World.size_alloc] at hev
  refine bodyPost_ret (ret_cell rfl _ _ ⟨w.heap.size + 1, 0, none⟩ _ rfl (load_par8 _ _ _ _ _ _ _ _ _ _ hbx)) rfl ?_
  exact ⟨_, _, _, rfl, fun W hW => ⟨HRS.out.keepP hW.1, RV.mk1 (hev.at (by simp) (hW.2 _ (by omega) (by simp))) (RL.nil _)⟩, up (up (below_box _ _) (below_box _ _)) (below_box _ _)⟩
set_option maxRecDepth 100000 in
set_option maxHeartbeats 8000000 in
theorem goes_3V (p : PS) (b : UInt8) (au aq : Option Addr) (nu cu nq cq : Nat) (w0 w : World) (hr : RS w0 (.slice au nu cu) (.slice aq nq cq) p) (hw : Pre w0 w) (h0 : p.st = 3) (k : 60 ≤ b.toNat) (k2 : b.toNat ≤ 63) :
    Calls Tryz.prog 55 #[.agg (cS p (.slice au nu cu) (.slice aq nq cq)), .int .u8 (b.toNat : Int)] w (Ret2 ({ begS (p.st + 1) with pr := b }, []) w0 w) := by
  have HRS := Lib.hid hr; clear hr
  have HW0 := Lib.hid hw; clear hw
  obtain ⟨st, utf, pr, fi, pp, it, tx, bad⟩ := p
  dsimp only at *
  have hst : st = 3 := by omega
  subst hst
  have d_l47 : decide ((b.toNat : Int) ≤ 47) = false := decide_eq_false (by omega)
  have d_g48 : decide ((48 : Int) ≤ (b.toNat : Int)) = true := decide_eq_true (by omega)
  have d_l59 : decide ((b.toNat : Int) ≤ 59) = false := decide_eq_false (by omega)
  have d_g60 : decide ((60 : Int) ≤ (b.toNat : Int)) = true := decide_eq_true (by omega)
  have d_l63 : decide ((b.toNat : Int) ≤ 63) = true := decide_eq_true (by omega)
  clear k k2 h0
  unfold cS
  dsimp only at *
  have hx1 := Box.new (w.alloc (.cells #[.int .i64 3, .slice au nu cu, .int .u8 (pr.toNat : Int), .int .u8 (fi.toNat : Int), .slice aq nq cq, .string it, .string tx, .bool bad] 25)) #[.int .i64 0, .slice none 0 0, .int .u8 0, .int .u8 0, .slice none 0 0, .string ⟨#[]⟩, .string ⟨#[]⟩, .bool false] 25
  have hb1 : Below w.heap.size w ((w.alloc (.cells #[.int .i64 3, .slice au nu cu, .int .u8 (pr.toNat : Int), .int .u8 (fi.toNat : Int), .slice aq nq cq, .string it, .string tx, .bool bad] 25)).alloc (.cells #[.int .i64 0, .slice none 0 0, .int .u8 0, .int .u8 0, .slice none 0 0, .string ⟨#[]⟩, .string ⟨#[]⟩, .bool false] 25)) := up (below_box _ _) (below_box _ _)
  rw [World.size_alloc] at hx1
  have HX1 := Lib.hid hx1
  have HB1 := Lib.hid hb1
  clear hx1 hb1
  go_enter Tryz.func55, Tryz.ntmps55
  go_wp2
  have hbx := Box.new (w.alloc (.cells #[.int .i64 3, .slice au nu cu, .int .u8 (pr.toNat : Int), .int .u8 (fi.toNat : Int), .slice aq nq cq, .string it, .string tx, .bool bad] 25)) #[.int .i64 4, .slice none 0 0, .int .u8 (b.toNat : Int), .int .u8 0, .slice none 0 0, .string ⟨#[]⟩, .string ⟨#[]⟩, .bool false] 25
  rw [World.size_alloc] at hbx
  refine bodyPost_ret (ret_cell rfl _ _ ⟨w.heap.size + 1, 0, none⟩ _ rfl (load_par8 _ _ _ _ _ _ _ _ _ _ hbx)) rfl ?_
  exact ⟨_, _, _, rfl, fun W _ => ⟨RS.nil _ _ rfl rfl, RV.nil _⟩, up (below_box _ _) (below_box _ _)⟩
set_option maxRecDepth 100000 in
set_option maxHeartbeats 8000000 in
theorem goes_3S (p : PS) (b : UInt8) (au aq : Option Addr) (nu cu nq cq : Nat) (w0 w : World) (hr : RS w0 (.slice au nu cu) (.slice aq nq cq) p) (hw : Pre w0 w) (h0 : p.st = 3) (k : b.toNat ≤ 47) :
    Calls Tryz.prog 55 #[.agg (cS p (.slice au nu cu) (.slice aq nq cq)), .int .u8 (b.toNat : Int)] w (Ret2 ({ begS (p.st + 2) with it := bs1 b }, []) w0 w) := by
  have HRS := Lib.hid hr; clear hr
  have HW0 := Lib.hid hw; clear hw
  obtain ⟨st, utf, pr, fi, pp, it, tx, bad⟩ := p
  dsimp only at *
  have hst : st = 3 := by omega
  subst hst
  have d_l47 : decide ((b.toNat : Int) ≤ 47) = true := decide_eq_true (by omega)
  have d_g48 : decide ((48 : Int) ≤ (b.toNat : Int)) = false := decide_eq_false (by omega)
  have d_l59 : decide ((b.toNat : Int) ≤ 59) = true := decide_eq_true (by omega)
  have d_g60 : decide ((60 : Int) ≤ (b.toNat : Int)) = false := decide_eq_false (by omega)
  have d_l63 : decide ((b.toNat : Int) ≤ 63) = true := decide_eq_true (by omega)
  clear k h0
  unfold cS
  dsimp only at *
  have hx1 := Box.new (w.alloc (.cells #[.int .i64 3, .slice au nu cu, .int .u8 (pr.toNat : Int), .int .u8 (fi.toNat : Int), .slice aq nq cq, .string it, .string tx, .bool bad] 25)) #[.int .i64 0, .slice none 0 0, .int .u8 0, .int .u8 0, .slice none 0 0, .string ⟨#[]⟩, .string ⟨#[]⟩, .bool false] 25
  have hb1 : Below w.heap.size w ((w.alloc (.cells #[.int .i64 3, .slice au nu cu, .int .u8 (pr.toNat : Int), .int .u8 (fi.toNat : Int), .slice aq nq cq, .string it, .string tx, .bool bad] 25)).alloc (.cells #[.int .i64 0, .slice none 0 0, .int .u8 0, .int .u8 0, .slice none 0 0, .string ⟨#[]⟩, .string ⟨#[]⟩, .bool false] 25)) := up (below_box _ _) (below_box _ _)
  rw [World.size_alloc] at hx1
  have HX1 := Lib.hid hx1
  have HB1 := Lib.hid hb1
  clear hx1 hb1
  have hcv := str1 ((w.alloc (.cells #[.int .i64 3, .slice au nu cu, .int .u8 (pr.toNat : Int), .int .u8 (fi.toNat : Int), .slice aq nq cq, .string it, .string tx, .bool bad] 25)).alloc (.cells #[.int .i64 0, .slice none 0 0, .int .u8 0, .int .u8 0, .slice none 0 0, .string ⟨#[]⟩, .string ⟨#[]⟩, .bool false] 25)) b 5
  rw [World.size_alloc, World.size_alloc] at hcv
  generalize bs1 b = B at hcv ⊢
  go_enter Tryz.func55, Tryz.ntmps55
  go_wp2
  have hbx := (Box.new (w.alloc (.cells #[.int .i64 3, .slice au nu cu, .int .u8 (pr.toNat : Int), .int .u8 (fi.toNat : Int), .slice aq nq cq, .string it, .string tx, .bool bad] 25)) #[.int .i64 5, .slice none 0 0, .int .u8 0, .int .u8 0, .slice none 0 0, .string B, .string ⟨#[]⟩, .bool false] 25).alloc (.cells #[.int .u8 (b.toNat : Int)] 5)
  rw [World.size_alloc] at hbx
  refine bodyPost_ret (ret_cell rfl _ _ ⟨w.heap.size + 1, 0, none⟩ _ rfl (load_par8 _ _ _ _ _ _ _ _ _ _ hbx)) rfl ?_
  exact ⟨_, _, _, rfl, fun W _ => ⟨RS.nil _ _ rfl rfl, RV.nil _⟩, up (up (below_box _ _) (below_box _ _)) (below_box _ _)⟩
set_option maxRecDepth 100000 in
set_option maxHeartbeats 8000000 in
theorem goes_8V (p : PS) (b : UInt8) (au aq : Option Addr) (nu cu nq cq : Nat) (w0 w : World) (hr : RS w0 (.slice au nu cu) (.slice aq nq cq) p) (hw : Pre w0 w) (h0 : p.st = 8) (k : 60 ≤ b.toNat) (k2 : b.toNat ≤ 63) :
    Calls Tryz.prog 55 #[.agg (cS p (.slice au nu cu) (.slice aq nq cq)), .int .u8 (b.toNat : Int)] w (Ret2 ({ begS (p.st + 1) with pr := b }, []) w0 w) := by
  have HRS := Lib.hid hr; clear hr
  have HW0 := Lib.hid hw; clear hw
  obtain ⟨st, utf, pr, fi, pp, it, tx, bad⟩ := p
  dsimp only at *
  have hst : st = 8 := by omega
  subst hst
  have d_l47 : decide ((b.toNat : Int) ≤ 47) = false := decide_eq_false (by omega)
  have d_g48 : decide ((48 : Int) ≤ (b.toNat : Int)) = true := decide_eq_true (by omega)
  have d_l59 : decide ((b.toNat : Int) ≤ 59) = false := decide_eq_false (by omega)
  have d_g60 : decide ((60 : Int) ≤ (b.toNat : Int)) = true := decide_eq_true (by omega)
  have d_l63 : decide ((b.toNat : Int) ≤ 63) = true := decide_eq_true (by omega)
  clear k k2 h0
  unfold cS
  dsimp only at *
  have hx1 := Box.new (w.alloc (.cells #[.int .i64 8, .slice au nu cu, .int .u8 (pr.toNat : Int), .int .u8 (fi.toNat : Int), .slice aq nq cq, .string it, .string tx, .bool bad] 25)) #[.int .i64 0, .slice none 0 0, .int .u8 0, .int .u8 0, .slice none 0 0, .string ⟨#[]⟩, .string ⟨#[]⟩, .bool false] 25
  have hb1 : Below w.heap.size w ((w.alloc (.cells #[.int .i64 8, .slice au nu cu, .int .u8 (pr.toNat : Int), .int .u8 (fi.toNat : Int), .slice aq nq cq, .string it, .string tx, .bool bad] 25)).alloc (.cells #[.int .i64 0, .slice none 0 0, .int .u8 0, .int .u8 0, .slice none 0 0, .string ⟨#[]⟩, .string ⟨#[]⟩, .bool false] 25)) := up (below_box _ _) (below_box _ _)
  rw [World.size_alloc] at hx1
  have HX1 := Lib.hid hx1
  have HB1 := Lib.hid hb1
  clear hx1 hb1
  go_enter Tryz.func55, Tryz.ntmps55
  go_wp2
  have hbx := Box.new (w.alloc (.cells #[.int .i64 8, .slice au nu cu, .int .u8 (pr.toNat : Int), .int .u8 (fi.toNat : Int), .slice aq nq cq, .string it, .string tx, .bool bad] 25)) #[.int .i64 9, .slice none 0 0, .int .u8 (b.toNat : Int), .int .u8 0, .slice none 0 0, .string ⟨#[]⟩, .string ⟨#[]⟩, .bool false] 25
  rw [World.size_alloc] at hbx
  refine bodyPost_ret (ret_cell rfl _ _ ⟨w.heap.size + 1, 0, none⟩ _ rfl (load_par8 _ _ _ _ _ _ _ _ _ _ hbx)) rfl ?_
  exact ⟨_, _, _, rfl, fun W _ => ⟨RS.nil _ _ rfl rfl, RV.nil _⟩, up (below_box _ _) (below_box _ _)⟩
set_option maxRecDepth 100000 in
set_option maxHeartbeats 8000000 in
theorem goes_8S (p : PS) (b : UInt8) (au aq : Option Addr) (nu cu nq cq : Nat) (w0 w : World) (hr : RS w0 (.slice au nu cu) (.slice aq nq cq) p) (hw : Pre w0 w) (h0 : p.st = 8) (k : b.toNat ≤ 47) :
    Calls Tryz.prog 55 #[.agg (cS p (.slice au nu cu) (.slice aq nq cq)), .int .u8 (b.toNat : Int)] w (Ret2 ({ begS (p.st + 2) with it := bs1 b }, []) w0 w) := by
  have HRS := Lib.hid hr; clear hr
  have HW0 := Lib.hid hw; clear hw
  obtain ⟨st, utf, pr, fi, pp, it, tx, bad⟩ := p
  dsimp only at *
  have hst : st = 8 := by omega
  subst hst
  have d_l47 : decide ((b.toNat : Int) ≤ 47) = true := decide_eq_true (by omega)
  have d_g48 : decide ((48 : Int) ≤ (b.toNat : Int)) = false := decide_eq_false (by omega)
  have d_l59 : decide ((b.toNat : Int) ≤ 59) = true := decide_eq_true (by omega)
  have d_g60 : decide ((60 : Int) ≤ (b.toNat : Int)) = false := decide_eq_false (by omega)
  have d_l63 : decide ((b.toNat : Int) ≤ 63) = true := decide_eq_true (by omega)
  clear k h0
  unfold cS
  dsimp only at *
  have hx1 := Box.new (w.alloc (.cells #[.int .i64 8, .slice au nu cu, .int .u8 (pr.toNat : Int), .int .u8 (fi.toNat : Int), .slice aq nq cq, .string it, .string tx, .bool bad] 25)) #[.int .i64 0, .slice none 0 0, .int .u8 0, .int .u8 0, .slice none 0 0, .string ⟨#[]⟩, .string ⟨#[]⟩, .bool false] 25
  have hb1 : Below w.heap.size w ((w.alloc (.cells #[.int .i64 8, .slice au nu cu, .int .u8 (pr.toNat : Int), .int .u8 (fi.toNat : Int), .slice aq nq cq, .string it, .string tx, .bool bad] 25)).alloc (.cells #[.int .i64 0, .slice none 0 0, .int .u8 0, .int .u8 0, .slice none 0 0, .string ⟨#[]⟩, .string ⟨#[]⟩, .bool false] 25)) := up (below_box _ _) (below_box _ _)
  rw [World.size_alloc] at hx1
  have HX1 := Lib.hid hx1
  have HB1 := Lib.hid hb1
  clear hx1 hb1
  have hcv := str1 ((w.alloc (.cells #[.int .i64 8, .slice au nu cu, .int .u8 (pr.toNat : Int), .int .u8 (fi.toNat : Int), .slice aq nq cq, .string it, .string tx, .bool bad] 25)).alloc (.cells #[.int .i64 0, .slice none 0 0, .int .u8 0, .int .u8 0, .slice none 0 0, .string ⟨#[]⟩, .string ⟨#[]⟩, .bool false] 25)) b 5
  rw [World.size_alloc, World.size_alloc] at hcv
  generalize bs1 b = B at hcv ⊢
  go_enter Tryz.func55, Tryz.ntmps55
  go_wp2
  have hbx := (Box.new (w.alloc (.cells #[.int .i64 8, .slice au nu cu, .int .u8 (pr.toNat : Int), .int .u8 (fi.toNat : Int), .slice aq nq cq, .string it, .string tx, .bool bad] 25)) #[.int .i64 10, .slice none 0 0, .int .u8 0, .int .u8 0, .slice none 0 0, .string B, .string ⟨#[]⟩, .bool false] 25).alloc (.cells #[.int .u8 (b.toNat : Int)] 5)
  rw [World.size_alloc] at hbx
  refine bodyPost_ret (ret_cell rfl _ _ ⟨w.heap.size + 1, 0, none⟩ _ rfl (load_par8 _ _ _ _ _ _ _ _ _ _ hbx)) rfl ?_
  exact ⟨_, _, _, rfl, fun W _ => ⟨RS.nil _ _ rfl rfl, RV.nil _⟩, up (up (below_box _ _) (below_box _ _)) (below_box _ _)⟩
set_option maxRecDepth 100000 in
set_option maxHeartbeats 8000000 in
theorem goes_4S (p : PS) (b : UInt8) (au aq : Option Addr) (nu cu nq cq : Nat) (w0 w : World) (hr : RS w0 (.slice au nu cu) (.slice aq nq cq) p) (hw : Pre w0 w) (h0 : p.st = 4) (k : b.toNat ≤ 47) (hj : p.it.size ≤ 1000000) :
    Calls Tryz.prog 55 #[.agg (cS p (.slice au nu cu) (.slice aq nq cq)), .int .u8 (b.toNat : Int)] w (Ret2 (sigS { p with st := p.st + 1 } b, []) w0 w) := by
  have HRS := Lib.hid hr; clear hr
  have HW0 := Lib.hid hw; clear hw
  obtain ⟨st, utf, pr, fi, pp, it, tx, bad⟩ := p
  dsimp only at *
  have hst : st = 4 := by omega
  subst hst
  have d_l47 : decide ((b.toNat : Int) ≤ 47) = true := decide_eq_true (by omega)
  have d_g48 : decide ((48 : Int) ≤ (b.toNat : Int)) = false := decide_eq_false (by omega)
  have d_l59 : decide ((b.toNat : Int) ≤ 59) = true := decide_eq_true (by omega)
  have d_g60 : decide ((60 : Int) ≤ (b.toNat : Int)) = false := decide_eq_false (by omega)
  have d_l63 : decide ((b.toNat : Int) ≤ 63) = true := decide_eq_true (by omega)
  clear k h0
  rw [show (4 : Int) + 1 = 5 from rfl]
  unfold cS
  dsimp only at *
  have hx1 := Box.new (w.alloc (.cells #[.int .i64 5, .slice au nu cu, .int .u8 (pr.toNat : Int), .int .u8 (fi.toNat : Int), .slice aq nq cq, .string it, .string tx, .bool bad] 25)) #[.int .i64 0, .slice none 0 0, .int .u8 0, .int .u8 0, .slice none 0 0, .string ⟨#[]⟩, .string ⟨#[]⟩, .bool false] 25
  have hb1 : Below w.heap.size w ((w.alloc (.cells #[.int .i64 5, .slice au nu cu, .int .u8 (pr.toNat : Int), .int .u8 (fi.toNat : Int), .slice aq nq cq, .string it, .string tx, .bool bad] 25)).alloc (.cells #[.int .i64 0, .slice none 0 0, .int .u8 0, .int .u8 0, .slice none 0 0, .string ⟨#[]⟩, .string ⟨#[]⟩, .bool false] 25)) := up (below_box _ _) (below_box _ _)
  rw [World.size_alloc] at hx1
  have HX1 := Lib.hid hx1
  have HB1 := Lib.hid hb1
  clear hx1 hb1
  go_enter Tryz.func55, Tryz.ntmps55
  go_wp2_with (go_at_call 74; refine (signed_any ⟨5, utf, pr, fi, pp, it, tx, bad⟩ b au aq nu cu nq cq w0 _ HRS.out hj).mono ?_; rintro e w3 ⟨u, q, rfl, hv3, hb3⟩; have hf := hv3 w3 ⟨upP HW0.out (up HB1.out hb3), fun k _ _ => rfl⟩; generalize sigS ⟨5, utf, pr, fi, pp, it, tx, bad⟩ b = r at *; obtain ⟨rst, rutf, rpr, rfi, rps, rit, rtx, rbad⟩ := r; obtain ⟨Au3, cu3, hu3⟩ := hf.1.form; obtain ⟨Aq3, cq3, hq3⟩ := hf.2.form; dsimp only at hu3 hq3; subst hu3; subst hq3; clear hf; have HV3 := Lib.hid hv3; clear hv3; unfold cS; dsimp only; have hx3 := HX1.out.keep hb3; obtain ⟨z0, y0, z1, y1, z2, y2, z3, y3, z4, y4, z5, y5, z6, y6, z7, y7⟩ := cf8 hx3; have l3 := hx3.1; have HX3 := Lib.hid hx3; clear hx3)
  refine bodyPost_ret (ret_cell rfl _ _ ⟨w.heap.size + 1, 0, none⟩ _ rfl (load_par8 _ _ _ _ _ _ _ _ _ _ (box_set8 _ _ _ _ _ _ _ _ HX3.out))) rfl ?_
  exact ⟨_, _, _, rfl, fun W hW => ⟨HV3.out W (hW.down (by simp; omega) (grown_set8 _ _ _ _ _ _ _ _ _ _) (by simp)), RV.nil _⟩, below_set8 _ _ _ _ _ _ _ _ _ (up HB1.out hb3) (by omega)⟩
set_option maxRecDepth 100000 in
set_option maxHeartbeats 8000000 in
theorem goes_9S (p : PS) (b : UInt8) (au aq : Option Addr) (nu cu nq cq : Nat) (w0 w : World) (hr : RS w0 (.slice au nu cu) (.slice aq nq cq) p) (hw : Pre w0 w) (h0 : p.st = 9) (k : b.toNat ≤ 47) (hj : p.it.size ≤ 1000000) :
    Calls Tryz.prog 55 #[.agg (cS p (.slice au nu cu) (.slice aq nq cq)), .int .u8 (b.toNat : Int)] w (Ret2 (sigS { p with st := p.st + 1 } b, []) w0 w) := by
  have HRS := Lib.hid hr; clear hr
  have HW0 := Lib.hid hw; clear hw
  obtain ⟨st, utf, pr, fi, pp, it, tx, bad⟩ := p
  dsimp only at *
  have hst : st = 9 := by omega
  subst hst
  have d_l47 : decide ((b.toNat : Int) ≤ 47) = true := decide_eq_true (by omega)
  have d_g48 : decide ((48 : Int) ≤ (b.toNat : Int)) = false := decide_eq_false (by omega)
  have d_l59 : decide ((b.toNat : Int) ≤ 59) = true := decide_eq_true (by omega)
  have d_g60 : decide ((60 : Int) ≤ (b.toNat : Int)) = false := decide_eq_false (by omega)
  have d_l63 : decide ((b.toNat : Int) ≤ 63) = true := decide_eq_true (by omega)
  clear k h0
  rw [show (9 : Int) + 1 = 10 from rfl]
  unfold cS
  dsimp only at *
  have hx1 := Box.new (w.alloc (.cells #[.int .i64 10, .slice au nu cu, .int .u8 (pr.toNat : Int), .int .u8 (fi.toNat : Int), .slice aq nq cq, .string it, .string tx, .bool bad] 25)) #[.int .i64 0, .slice none 0 0, .int .u8 0, .int .u8 0, .slice none 0 0, .string ⟨#[]⟩, .string ⟨#[]⟩, .bool false] 25
  have hb1 : Below w.heap.size w ((w.alloc (.cells #[.int .i64 10, .slice au nu cu, .int .u8 (pr.toNat : Int), .int .u8 (fi.toNat : Int), .slice aq nq cq, .string it, .string tx, .bool bad] 25)).alloc (.cells #[.int .i64 0, .slice none 0 0, .int .u8 0, .int .u8 0, .slice none 0 0, .string ⟨#[]⟩, .string ⟨#[]⟩, .bool false] 25)) := up (below_box _ _) (below_box _ _)
  rw [World.size_alloc] at hx1
  have HX1 := Lib.hid hx1
  have HB1 := Lib.hid hb1
  clear hx1 hb1
  go_enter Tryz.func55, Tryz.ntmps55
  go_wp2_with (go_at_call 74; refine (signed_any ⟨10, utf, pr, fi, pp, it, tx, bad⟩ b au aq nu cu nq cq w0 _ HRS.out hj).mono ?_; rintro e w3 ⟨u, q, rfl, hv3, hb3⟩; have hf := hv3 w3 ⟨upP HW0.out (up HB1.out hb3), fun k _ _ => rfl⟩; generalize sigS ⟨10, utf, pr, fi, pp, it, tx, bad⟩ b = r at *; obtain ⟨rst, rutf, rpr, rfi, rps, rit, rtx, rbad⟩ := r; obtain ⟨Au3, cu3, hu3⟩ := hf.1.form; obtain ⟨Aq3, cq3, hq3⟩ := hf.2.form; dsimp only at hu3 hq3; subst hu3; subst hq3; clear hf; have HV3 := Lib.hid hv3; clear hv3; unfold cS; dsimp only; have hx3 := HX1.out.keep hb3; obtain ⟨z0, y0, z1, y1, z2, y2, z3, y3, z4, y4, z5, y5, z6, y6, z7, y7⟩ := cf8 hx3; have l3 := hx3.1; have HX3 := Lib.hid hx3; clear hx3)
  refine bodyPost_ret (ret_cell rfl _ _ ⟨w.heap.size + 1, 0, none⟩ _ rfl (load_par8 _ _ _ _ _ _ _ _ _ _ (box_set8 _ _ _ _ _ _ _ _ HX3.out))) rfl ?_
  exact ⟨_, _, _, rfl, fun W hW => ⟨HV3.out W (hW.down (by simp; omega) (grown_set8 _ _ _ _ _ _ _ _ _ _) (by simp)), RV.nil _⟩, below_set8 _ _ _ _ _ _ _ _ _ (up HB1.out hb3) (by omega)⟩
set_option maxRecDepth 100000 in
set_option maxHeartbeats 8000000 in
theorem goes_3D (p : PS) (b : UInt8) (au aq : Option Addr) (nu cu nq cq : Nat) (w0 w : World) (hr : RS w0 (.slice au nu cu) (.slice aq nq cq) p) (hw : Pre w0 w) (h0 : p.st = 3) (k : 48 ≤ b.toNat) (k2 : b.toNat ≤ 59) :
    Calls Tryz.prog 55 #[.agg (cS p (.slice au nu cu) (.slice aq nq cq)), .int .u8 (b.toNat : Int)] w (Ret2 ({ begS (p.st + 1) with ps := (stpV [] b).1 }, []) w0 w) := by
  have HRS := Lib.hid hr; clear hr
  have HW0 := Lib.hid hw; clear hw
  obtain ⟨st, utf, pr, fi, pp, it, tx, bad⟩ := p
  dsimp only at *
  have hst : st = 3 := by omega
  subst hst
  have d_l47 : decide ((b.toNat : Int) ≤ 47) = false := decide_eq_false (by omega)
  have d_g48 : decide ((48 : Int) ≤ (b.toNat : Int)) = true := decide_eq_true (by omega)
  have d_l59 : decide ((b.toNat : Int) ≤ 59) = true := decide_eq_true (by omega)
  have d_g60 : decide ((60 : Int) ≤ (b.toNat : Int)) = false := decide_eq_false (by omega)
  have d_l63 : decide ((b.toNat : Int) ≤ 63) = true := decide_eq_true (by omega)
  clear k k2 h0
  unfold cS
  dsimp only at *
  have hx1 := Box.new (w.alloc (.cells #[.int .i64 3, .slice au nu cu, .int .u8 (pr.toNat : Int), .int .u8 (fi.toNat : Int), .slice aq nq cq, .string it, .string tx, .bool bad] 25)) #[.int .i64 0, .slice none 0 0, .int .u8 0, .int .u8 0, .slice none 0 0, .string ⟨#[]⟩, .string ⟨#[]⟩, .bool false] 25
  have hb1 : Below w.heap.size w ((w.alloc (.cells #[.int .i64 3, .slice au nu cu, .int .u8 (pr.toNat : Int), .int .u8 (fi.toNat : Int), .slice aq nq cq, .string it, .string tx, .bool bad] 25)).alloc (.cells #[.int .i64 0, .slice none 0 0, .int .u8 0, .int .u8 0, .slice none 0 0, .string ⟨#[]⟩, .string ⟨#[]⟩, .bool false] 25)) := up (below_box _ _) (below_box _ _)
  rw [World.size_alloc] at hx1
  have HX1 := Lib.hid hx1
  have HB1 := Lib.hid hb1
  clear hx1 hb1
  have hp1 := (Box.new w #[.int .i64 3, .slice au nu cu, .int .u8 (pr.toNat : Int), .int .u8 (fi.toNat : Int), .slice aq nq cq, .string it, .string tx, .bool bad] 25).alloc (.cells #[.int .i64 0, .slice none 0 0, .int .u8 0, .int .u8 0, .slice none 0 0, .string ⟨#[]⟩, .string ⟨#[]⟩, .bool false] 25)
  have HP1 := Lib.hid hp1
  clear hp1
  go_enter Tryz.func55, Tryz.ntmps55
  go_wp2_with (go_at_call 75; refine (rstep_own (.slice none 0 0) [] b _ (RL.nil _) ⟨by simp, by simp⟩).mono ?_; rintro e w3 ⟨v3, rfl, hr3, hb3⟩; obtain ⟨A3, c3, hv⟩ := hr3.rl.form; subst hv; have HR3 := Lib.hid hr3; clear hr3; have hp3 := HP1.out.keep hb3; have x0 := hp3.cell 0 _ rfl; have x1 := hp3.cell 1 _ rfl; have x2 := hp3.cell 2 _ rfl; have x3 := hp3.cell 3 _ rfl; have x4 := hp3.cell 4 _ rfl; have x5 := hp3.cell 5 _ rfl; have x6 := hp3.cell 6 _ rfl; have x7 := hp3.cell 7 _ rfl; clear hp3; have hx3 := HX1.out.keep hb3; obtain ⟨z0, y0, z1, y1, z2, y2, z3, y3, z4, y4, z5, y5, z6, y6, z7, y7⟩ := cf8 hx3; have l3 := hx3.1; have HX3 := Lib.hid hx3; clear hx3)
  refine bodyPost_ret (ret_cell rfl _ _ ⟨w.heap.size + 1, 0, none⟩ _ rfl (load_par8 _ _ _ _ _ _ _ _ _ _ (box_set8 _ _ _ _ _ _ _ _ HX3.out))) rfl ?_
  exact ⟨_, _, _, rfl, fun W hW => ⟨⟨RB.nil W, (ownL_agr HR3.out (hW.down (by simp; omega) (grown_set8 _ _ _ _ _ _ _ _ _ _) (by simp)).2).rl⟩, RV.nil _⟩, below_set8 _ _ _ _ _ _ _ _ _ (up HB1.out hb3) (by omega)⟩
set_option maxRecDepth 100000 in
set_option maxHeartbeats 8000000 in
theorem goes_8D (p : PS) (b : UInt8) (au aq : Option Addr) (nu cu nq cq : Nat) (w0 w : World) (hr : RS w0 (.slice au nu cu) (.slice aq nq cq) p) (hw : Pre w0 w) (h0 : p.st = 8) (k : 48 ≤ b.toNat) (k2 : b.toNat ≤ 59) :
    Calls Tryz.prog 55 #[.agg (cS p (.slice au nu cu) (.slice aq nq cq)), .int .u8 (b.toNat : Int)] w (Ret2 ({ begS (p.st + 1) with ps := (stpV [] b).1 }, []) w0 w) := by
  have HRS := Lib.hid hr; clear hr
  have HW0 := Lib.hid hw; clear hw
  obtain ⟨st, utf, pr, fi, pp, it, tx, bad⟩ := p
  dsimp only at *
  have hst : st = 8 := by omega
  subst hst
  have d_l47 : decide ((b.toNat : Int) ≤ 47) = false := decide_eq_false (by omega)
  have d_g48 : decide ((48 : Int) ≤ (b.toNat : Int)) = true := decide_eq_true (by omega)
  have d_l59 : decide ((b.toNat : Int) ≤ 59) = true := decide_eq_true (by omega)
  have d_g60 : decide ((60 : Int) ≤ (b.toNat : Int)) = false := decide_eq_false (by omega)
  have d_l63 : decide ((b.toNat : Int) ≤ 63) = true := decide_eq_true (by omega)
  clear k k2 h0
  unfold cS
  dsimp only at *
  have hx1 := Box.new (w.alloc (.cells #[.int .i64 8, .slice au nu cu, .int .u8 (pr.toNat : Int), .int .u8 (fi.toNat : Int), .slice aq nq cq, .string it, .string tx, .bool bad] 25)) #[.int .i64 0, .slice none 0 0, .int .u8 0, .int .u8 0, .slice none 0 0, .string ⟨#[]⟩, .string ⟨#[]⟩, .bool false] 25
  have hb1 : Below w.heap.size w ((w.alloc (.cells #[.int .i64 8, .slice au nu cu, .int .u8 (pr.toNat : Int), .int .u8 (fi.toNat : Int), .slice aq nq cq, .string it, .string tx, .bool bad] 25)).alloc (.cells #[.int .i64 0, .slice none 0 0, .int .u8 0, .int .u8 0, .slice none 0 0, .string ⟨#[]⟩, .string ⟨#[]⟩, .bool false] 25)) := up (below_box _ _) (below_box _ _)
  rw [World.size_alloc] at hx1
  have HX1 := Lib.hid hx1
  have HB1 := Lib.hid hb1
  clear hx1 hb1
  have hp1 := (Box.new w #[.int .i64 8, .slice au nu cu, .int .u8 (pr.toNat : Int), .int .u8 (fi.toNat : Int), .slice aq nq cq, .string it, .string tx, .bool bad] 25).alloc (.cells #[.int .i64 0, .slice none 0 0, .int .u8 0, .int .u8 0, .slice none 0 0, .string ⟨#[]⟩, .string ⟨#[]⟩, .bool false] 25)
  have HP1 := Lib.hid hp1
  clear hp1
  go_enter Tryz.func55, Tryz.ntmps55
  go_wp2_with (go_at_call 75; refine (rstep_own (.slice none 0 0) [] b _ (RL.nil _) ⟨by simp, by simp⟩).mono ?_; rintro e w3 ⟨v3, rfl, hr3, hb3⟩; obtain ⟨A3, c3, hv⟩ := hr3.rl.form; subst hv; have HR3 := Lib.hid hr3; clear hr3; have hp3 := HP1.out.keep hb3; have x0 := hp3.cell 0 _ rfl; have x1 := hp3.cell 1 _ rfl; have x2 := hp3.cell 2 _ rfl; have x3 := hp3.cell 3 _ rfl; have x4 := hp3.cell 4 _ rfl; have x5 := hp3.cell 5 _ rfl; have x6 := hp3.cell 6 _ rfl; have x7 := hp3.cell 7 _ rfl; clear hp3; have hx3 := HX1.out.keep hb3; obtain ⟨z0, y0, z1, y1, z2, y2, z3, y3, z4, y4, z5, y5, z6, y6, z7, y7⟩ := cf8 hx3; have l3 := hx3.1; have HX3 := Lib.hid hx3; clear hx3)
  refine bodyPost_ret (ret_cell rfl _ _ ⟨w.heap.size + 1, 0, none⟩ _ rfl (load_par8 _ _ _ _ _ _ _ _ _ _ (box_set8 _ _ _ _ _ _ _ _ HX3.out))) rfl ?_
  exact ⟨_, _, _, rfl, fun W hW => ⟨⟨RB.nil W, (ownL_agr HR3.out (hW.down (by simp; omega) (grown_set8 _ _ _ _ _ _ _ _ _ _) (by simp)).2).rl⟩, RV.nil _⟩, below_set8 _ _ _ _ _ _ _ _ _ (up HB1.out hb3) (by omega)⟩
end Go.Proofs.YtmboekpomjgnnaaGreatDoor.Sta
