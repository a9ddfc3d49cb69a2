/-
  StaJ
-/
import Derived.Test.YtmboekpomjgnnaaGreatDoorF24
namespace Go.Proofs.YtmboekpomjgnnaaGreatDoor.Sta
open Go.RowKit Utf Par

theorem Agr.down {w0 w w1 w3 w' W : World} {R : Nat} (h : Agr w0 w w' W) (h1 : w.heap.size ≤ w1.heap.size) (hg : w3.grownBy w' (some R)) (hR : R < w1.heap.size) : Agr w0 w1 w3 W :=
  ⟨h.1, fun k hk hl => (h.2 k (by omega) (Nat.lt_of_lt_of_le hl hg.size)).trans (hg.block k hl (by simp; omega))⟩
set_option maxRecDepth 100000 in
set_option maxHeartbeats 8000000 in
theorem within_a (p : PS) (b : UInt8) (au aq : Option Addr) (nu cu nq cq : Nat) (w0 w : World) (hr : RS w0 (.slice au nu cu) (.slice aq nq cq) p) (hi : p.tx.size ≤ 1000000) (h6 : p.st = 6) (h7 : b.toNat = 7) :
    Calls Tryz.prog 54 #[.agg (cS p (.slice au nu cu) (.slice aq nq cq)), .int .u8 (b.toNat : Int)] w (Ret2 (tolS p (osE p)) w0 w) := by
  have HRS := Lib.hid hr; clear hr
  obtain ⟨st, utf, pr, fi, pp, it, tx, bad⟩ := p
  dsimp only at *
  have hst : st = 6 := by omega
  subst hst
  have hbv : (b.toNat : Int) = 7 := by omega
  rw [hbv]
  clear hbv
  clear h7 h6
  unfold cS
  dsimp only at *
  have hx1 := Box.new (w.alloc (.cells #[.int .i64 6, .slice au nu cu, .int .u8 (pr.toNat : Int), .int .u8 (fi.toNat : Int), .slice aq nq cq, .string it, .string tx, .bool bad] 25)) #[.int .i64 0, .slice none 0 0, .int .u8 0, .int .u8 0, .slice none 0 0, .string ⟨#[]⟩, .string ⟨#[]⟩, .bool false] 25
  have hb1 : Below w.heap.size w ((w.alloc (.cells #[.int .i64 6, .slice au nu cu, .int .u8 (pr.toNat : Int), .int .u8 (fi.toNat : Int), .slice aq nq cq, .string it, .string tx, .bool bad] 25)).alloc (.cells #[.int .i64 0, .slice none 0 0, .int .u8 0, .int .u8 0, .slice none 0 0, .string ⟨#[]⟩, .string ⟨#[]⟩, .bool false] 25)) := up (below_box _ _) (below_box _ _)
  rw [World.size_alloc] at hx1
  have HX1 := Lib.hid hx1
  have HB1 := Lib.hid hb1
  clear hx1 hb1
  go_enter Tryz.func54, Tryz.ntmps54
  go_wp2_with (go_at_call 71; refine (told_is ⟨6, utf, pr, fi, pp, it, tx, bad⟩ (osE ⟨6, utf, pr, fi, pp, it, tx, bad⟩) au aq none nu cu nq cq 0 0 w0 _ (RL.nil _)).mono ?_; rintro e w3 ⟨vv, rfl, hv3, hb3⟩; have hx3 := HX1.out.keep hb3; obtain ⟨z0, y0, z1, y1, z2, y2, z3, y3, z4, y4, z5, y5, z6, y6, z7, y7⟩ := cf8 hx3; have l3 := hx3.1; have HX3 := Lib.hid hx3; clear hx3)
  refine bodyPost_ret (ret_cell rfl _ _ ⟨w.heap.size + 1, 0, none⟩ _ rfl (load_par8 _ _ _ _ _ _ _ _ _ _ (box_set8 _ _ _ _ _ _ _ _ HX3.out))) rfl ?_
  exact ⟨_, _, _, by rw [tolS_fst]; rfl, fun W hW => ⟨by rw [tolS_fst]; exact RS.nil _ _ rfl rfl, hv3 W (hW.down (by simp; omega) (grown_set8 _ _ _ _ _ _ _ _ _ _) (by simp))⟩, below_set8 _ _ _ _ _ _ _ _ _ (up HB1.out hb3) (by omega)⟩
set_option maxRecDepth 100000 in
set_option maxHeartbeats 8000000 in
theorem within_bx (p : PS) (b : UInt8) (au aq : Option Addr) (nu cu nq cq : Nat) (w0 w : World) (hr : RS w0 (.slice au nu cu) (.slice aq nq cq) p) (hi : p.tx.size ≤ 1000000) (h6 : p.st ≠ 6) (k1 : b.toNat < 32) :
    Calls Tryz.prog 54 #[.agg (cS p (.slice au nu cu) (.slice aq nq cq)), .int .u8 (b.toNat : Int)] w (Ret2 (p, []) w0 w) := by
  have HRS := Lib.hid hr; clear hr
  obtain ⟨st, utf, pr, fi, pp, it, tx, bad⟩ := p
  dsimp only at *
  have c6 : (st == 6) = false := by simp; omega
  have d32 : decide ((b.toNat : Int) < 32) = true := decide_eq_true (by omega)
  clear h6 k1
  unfold cS
  dsimp only at *
  have hx1 := Box.new (w.alloc (.cells #[.int .i64 st, .slice au nu cu, .int .u8 (pr.toNat : Int), .int .u8 (fi.toNat : Int), .slice aq nq cq, .string it, .string tx, .bool bad] 25)) #[.int .i64 0, .slice none 0 0, .int .u8 0, .int .u8 0, .slice none 0 0, .string ⟨#[]⟩, .string ⟨#[]⟩, .bool false] 25
  have hb1 : Below w.heap.size w ((w.alloc (.cells #[.int .i64 st, .slice au nu cu, .int .u8 (pr.toNat : Int), .int .u8 (fi.toNat : Int), .slice aq nq cq, .string it, .string tx, .bool bad] 25)).alloc (.cells #[.int .i64 0, .slice none 0 0, .int .u8 0, .int .u8 0, .slice none 0 0, .string ⟨#[]⟩, .string ⟨#[]⟩, .bool false] 25)) := up (below_box _ _) (below_box _ _)
  rw [World.size_alloc] at hx1
  have HX1 := Lib.hid hx1
  have HB1 := Lib.hid hb1
  clear hx1 hb1
  go_enter Tryz.func54, Tryz.ntmps54
  go_wp2
  have hbx := Box.new (w.alloc (.cells #[.int .i64 st, .slice au nu cu, .int .u8 (pr.toNat : Int), .int .u8 (fi.toNat : Int), .slice aq nq cq, .string it, .string tx, .bool bad] 25)) #[.int .i64 st, .slice au nu cu, .int .u8 (pr.toNat : Int), .int .u8 (fi.toNat : Int), .slice aq nq cq, .string it, .string tx, .bool bad] 25
  rw [World.size_alloc] at hbx
  refine bodyPost_ret (ret_cell rfl _ _ ⟨w.heap.size + 1, 0, none⟩ _ rfl (load_par8 _ _ _ _ _ _ _ _ _ _ hbx)) rfl ?_
  exact ⟨_, _, _, rfl, fun W hW => ⟨HRS.out.keepP hW.1, RV.nil _⟩, up (below_box _ _) (below_box _ _)⟩
set_option maxRecDepth 100000 in
set_option maxHeartbeats 8000000 in
theorem within_cx (p : PS) (b : UInt8) (au aq : Option Addr) (nu cu nq cq : Nat) (w0 w : World) (hr : RS w0 (.slice au nu cu) (.slice aq nq cq) p) (hi : p.tx.size ≤ 1000000) (h6 : p.st ≠ 6) (k2 : b.toNat = 127) :
    Calls Tryz.prog 54 #[.agg (cS p (.slice au nu cu) (.slice aq nq cq)), .int .u8 (b.toNat : Int)] w (Ret2 (p, []) w0 w) := by
  have HRS := Lib.hid hr; clear hr
  obtain ⟨st, utf, pr, fi, pp, it, tx, bad⟩ := p
  dsimp only at *
  have c6 : (st == 6) = false := by simp; omega
  have hbv : (b.toNat : Int) = 127 := by omega
  rw [hbv]
  clear hbv
  clear h6 k2
  unfold cS
  dsimp only at *
  have hx1 := Box.new (w.alloc (.cells #[.int .i64 st, .slice au nu cu, .int .u8 (pr.toNat : Int), .int .u8 (fi.toNat : Int), .slice aq nq cq, .string it, .string tx, .bool bad] 25)) #[.int .i64 0, .slice none 0 0, .int .u8 0, .int .u8 0, .slice none 0 0, .string ⟨#[]⟩, .string ⟨#[]⟩, .bool false] 25
  have hb1 : Below w.heap.size w ((w.alloc (.cells #[.int .i64 st, .slice au nu cu, .int .u8 (pr.toNat : Int), .int .u8 (fi.toNat : Int), .slice aq nq cq, .string it, .string tx, .bool bad] 25)).alloc (.cells #[.int .i64 0, .slice none 0 0, .int .u8 0, .int .u8 0, .slice none 0 0, .string ⟨#[]⟩, .string ⟨#[]⟩, .bool false] 25)) := up (below_box _ _) (below_box _ _)
  rw [World.size_alloc] at hx1
  have HX1 := Lib.hid hx1
  have HB1 := Lib.hid hb1
  clear hx1 hb1
  go_enter Tryz.func54, Tryz.ntmps54
  go_wp2
  have hbx := Box.new (w.alloc (.cells #[.int .i64 st, .slice au nu cu, .int .u8 (pr.toNat : Int), .int .u8 (fi.toNat : Int), .slice aq nq cq, .string it, .string tx, .bool bad] 25)) #[.int .i64 st, .slice au nu cu, .int .u8 (pr.toNat : Int), .int .u8 (fi.toNat : Int), .slice aq nq cq, .string it, .string tx, .bool bad] 25
  rw [World.size_alloc] at hbx
  refine bodyPost_ret (ret_cell rfl _ _ ⟨w.heap.size + 1, 0, none⟩ _ rfl (load_par8 _ _ _ _ _ _ _ _ _ _ hbx)) rfl ?_
  exact ⟨_, _, _, rfl, fun W hW => ⟨HRS.out.keepP hW.1, RV.nil _⟩, up (below_box _ _) (below_box _ _)⟩
set_option maxRecDepth 100000 in
set_option maxHeartbeats 8000000 in
theorem within_dx (p : PS) (b : UInt8) (au aq : Option Addr) (nu cu nq cq : Nat) (w0 w : World) (hr : RS w0 (.slice au nu cu) (.slice aq nq cq) p) (hi : p.tx.size ≤ 1000000) (h6 : p.st ≠ 6) (k1 : ¬ b.toNat < 32) (k2 : b.toNat ≠ 127) (k3 : p.st = 13) :
    Calls Tryz.prog 54 #[.agg (cS p (.slice au nu cu) (.slice aq nq cq)), .int .u8 (b.toNat : Int)] w (Ret2 (p, []) w0 w) := by
  have HRS := Lib.hid hr; clear hr
  obtain ⟨st, utf, pr, fi, pp, it, tx, bad⟩ := p
  dsimp only at *
  have hst : st = 13 := by omega
  subst hst
  have d32 : decide ((b.toNat : Int) < 32) = false := decide_eq_false (by omega)
  have e127 : ((b.toNat : Int) == 127) = false := by simp; omega
  clear h6 k1 k2 k3
  unfold cS
  dsimp only at *
  have hx1 := Box.new (w.alloc (.cells #[.int .i64 13, .slice au nu cu, .int .u8 (pr.toNat : Int), .int .u8 (fi.toNat : Int), .slice aq nq cq, .string it, .string tx, .bool bad] 25)) #[.int .i64 0, .slice none 0 0, .int .u8 0, .int .u8 0, .slice none 0 0, .string ⟨#[]⟩, .string ⟨#[]⟩, .bool false] 25
  have hb1 : Below w.heap.size w ((w.alloc (.cells #[.int .i64 13, .slice au nu cu, .int .u8 (pr.toNat : Int), .int .u8 (fi.toNat : Int), .slice aq nq cq, .string it, .string tx, .bool bad] 25)).alloc (.cells #[.int .i64 0, .slice none 0 0, .int .u8 0, .int .u8 0, .slice none 0 0, .string ⟨#[]⟩, .string ⟨#[]⟩, .bool false] 25)) := up (below_box _ _) (below_box _ _)
  rw [World.size_alloc] at hx1
  have HX1 := Lib.hid hx1
  have HB1 := Lib.hid hb1
  clear hx1 hb1
  go_enter Tryz.func54, Tryz.ntmps54
  go_wp2
  have hbx := Box.new (w.alloc (.cells #[.int .i64 13, .slice au nu cu, .int .u8 (pr.toNat : Int), .int .u8 (fi.toNat : Int), .slice aq nq cq, .string it, .string tx, .bool bad] 25)) #[.int .i64 13, .slice au nu cu, .int .u8 (pr.toNat : Int), .int .u8 (fi.toNat : Int), .slice aq nq cq, .string it, .string tx, .bool bad] 25
  rw [World.size_alloc] at hbx
  refine bodyPost_ret (ret_cell rfl _ _ ⟨w.heap.size + 1, 0, none⟩ _ rfl (load_par8 _ _ _ _ _ _ _ _ _ _ hbx)) rfl ?_
  exact ⟨_, _, _, rfl, fun W hW => ⟨HRS.out.keepP hW.1, RV.nil _⟩, up (below_box _ _) (below_box _ _)⟩
set_option maxRecDepth 100000 in
set_option maxHeartbeats 8000000 in
theorem within_ex (p : PS) (b : UInt8) (au aq : Option Addr) (nu cu nq cq : Nat) (w0 w : World) (hr : RS w0 (.slice au nu cu) (.slice aq nq cq) p) (hi : p.tx.size ≤ 1000000) (h6 : p.st ≠ 6) (k1 : ¬ b.toNat < 32) (k2 : b.toNat ≠ 127) (k3 : p.st ≠ 13) (hbad : p.bad = true) :
    Calls Tryz.prog 54 #[.agg (cS p (.slice au nu cu) (.slice aq nq cq)), .int .u8 (b.toNat : Int)] w (Ret2 (p, []) w0 w) := by
  have HRS := Lib.hid hr; clear hr
  obtain ⟨st, utf, pr, fi, pp, it, tx, bad⟩ := p
  dsimp only at *
  have c6 : (st == 6) = false := by simp; omega
  have d32 : decide ((b.toNat : Int) < 32) = false := decide_eq_false (by omega)
  have e127 : ((b.toNat : Int) == 127) = false := by simp; omega
  have c13 : (st == 13) = false := by simp; omega
  clear h6 k1 k2 k3
  subst hbad
  unfold cS
  dsimp only at *
  have hx1 := Box.new (w.alloc (.cells #[.int .i64 st, .slice au nu cu, .int .u8 (pr.toNat : Int), .int .u8 (fi.toNat : Int), .slice aq nq cq, .string it, .string tx, .bool true] 25)) #[.int .i64 0, .slice none 0 0, .int .u8 0, .int .u8 0, .slice none 0 0, .string ⟨#[]⟩, .string ⟨#[]⟩, .bool false] 25
  have hb1 : Below w.heap.size w ((w.alloc (.cells #[.int .i64 st, .slice au nu cu, .int .u8 (pr.toNat : Int), .int .u8 (fi.toNat : Int), .slice aq nq cq, .string it, .string tx, .bool true] 25)).alloc (.cells #[.int .i64 0, .slice none 0 0, .int .u8 0, .int .u8 0, .slice none 0 0, .string ⟨#[]⟩, .string ⟨#[]⟩, .bool false] 25)) := up (below_box _ _) (below_box _ _)
  rw [World.size_alloc] at hx1
  have HX1 := Lib.hid hx1
  have HB1 := Lib.hid hb1
  clear hx1 hb1
  go_enter Tryz.func54, Tryz.ntmps54
  go_wp2
  have hbx := Box.new (w.alloc (.cells #[.int .i64 st, .slice au nu cu, .int .u8 (pr.toNat : Int), .int .u8 (fi.toNat : Int), .slice aq nq cq, .string it, .string tx, .bool true] 25)) #[.int .i64 st, .slice au nu cu, .int .u8 (pr.toNat : Int), .int .u8 (fi.toNat : Int), .slice aq nq cq, .string it, .string tx, .bool true] 25
  rw [World.size_alloc] at hbx
  refine bodyPost_ret (ret_cell rfl _ _ ⟨w.heap.size + 1, 0, none⟩ _ rfl (load_par8 _ _ _ _ _ _ _ _ _ _ hbx)) rfl ?_
  exact ⟨_, _, _, rfl, fun W hW => ⟨HRS.out.keepP hW.1, RV.nil _⟩, up (below_box _ _) (below_box _ _)⟩
set_option maxRecDepth 100000 in
set_option maxHeartbeats 8000000 in
theorem within_fx (p : PS) (b : UInt8) (au aq : Option Addr) (nu cu nq cq : Nat) (w0 w : World) (hr : RS w0 (.slice au nu cu) (.slice aq nq cq) p) (hi : p.tx.size ≤ 1000000) (h6 : p.st ≠ 6) (k1 : ¬ b.toNat < 32) (k2 : b.toNat ≠ 127) (k3 : p.st ≠ 13) (hbad : p.bad = false) (k4 : p.tx.size = 512) :
    Calls Tryz.prog 54 #[.agg (cS p (.slice au nu cu) (.slice aq nq cq)), .int .u8 (b.toNat : Int)] w (Ret2 (spoS p.st, []) w0 w) := by
  have HRS := Lib.hid hr; clear hr
  obtain ⟨st, utf, pr, fi, pp, it, tx, bad⟩ := p
  dsimp only at *
  have c6 : (st == 6) = false := by simp; omega
  have d32 : decide ((b.toNat : Int) < 32) = false := decide_eq_false (by omega)
  have e127 : ((b.toNat : Int) == 127) = false := by simp; omega
  have c13 : (st == 13) = false := by simp; omega
  clear h6 k1 k2 k3
  subst hbad
  have s5 : ((tx.size : Int) == 512) = true := by simp; omega
  clear k4
  unfold cS
  dsimp only at *
  have hx1 := Box.new (w.alloc (.cells #[.int .i64 st, .slice au nu cu, .int .u8 (pr.toNat : Int), .int .u8 (fi.toNat : Int), .slice aq nq cq, .string it, .string tx, .bool false] 25)) #[.int .i64 0, .slice none 0 0, .int .u8 0, .int .u8 0, .slice none 0 0, .string ⟨#[]⟩, .string ⟨#[]⟩, .bool false] 25
  have hb1 : Below w.heap.size w ((w.alloc (.cells #[.int .i64 st, .slice au nu cu, .int .u8 (pr.toNat : Int), .int .u8 (fi.toNat : Int), .slice aq nq cq, .string it, .string tx, .bool false] 25)).alloc (.cells #[.int .i64 0, .slice none 0 0, .int .u8 0, .int .u8 0, .slice none 0 0, .string ⟨#[]⟩, .string ⟨#[]⟩, .bool false] 25)) := up (below_box _ _) (below_box _ _)
  rw [World.size_alloc] at hx1
  have HX1 := Lib.hid hx1
  have HB1 := Lib.hid hb1
  clear hx1 hb1
  go_enter Tryz.func54, Tryz.ntmps54
  go_wp2_with (go_at_call 72; refine (spoilt_any _ _).mono ?_; rintro e w3 ⟨rfl, hb3⟩; have hx3 := HX1.out.keep hb3; obtain ⟨z0, y0, z1, y1, z2, y2, z3, y3, z4, y4, z5, y5, z6, y6, z7, y7⟩ := cf8 hx3; have l3 := hx3.1; have HX3 := Lib.hid hx3; clear hx3)
  refine bodyPost_ret (ret_cell rfl _ _ ⟨w.heap.size + 1, 0, none⟩ _ rfl (load_par8 _ _ _ _ _ _ _ _ _ _ (box_set8 _ _ _ _ _ _ _ _ HX3.out))) rfl ?_
  exact ⟨_, _, _, rfl, fun W hW => ⟨RS.nil _ _ rfl rfl, RV.nil _⟩, below_set8 _ _ _ _ _ _ _ _ _ (up HB1.out hb3) (by omega)⟩
set_option maxRecDepth 100000 in
set_option maxHeartbeats 8000000 in
theorem within_gx (p : PS) (b : UInt8) (au aq : Option Addr) (nu cu nq cq : Nat) (w0 w : World) (hr : RS w0 (.slice au nu cu) (.slice aq nq cq) p) (hi : p.tx.size ≤ 1000000) (h6 : p.st ≠ 6) (k1 : ¬ b.toNat < 32) (k2 : b.toNat ≠ 127) (k3 : p.st ≠ 13) (hbad : p.bad = false) (k4 : p.tx.size ≠ 512) :
    Calls Tryz.prog 54 #[.agg (cS p (.slice au nu cu) (.slice aq nq cq)), .int .u8 (b.toNat : Int)] w (Ret2 ({ p with tx := p.tx ++ bs1 b }, []) w0 w) := by
  have HRS := Lib.hid hr; clear hr
  obtain ⟨st, utf, pr, fi, pp, it, tx, bad⟩ := p
  dsimp only at *
  have c6 : (st == 6) = false := by simp; omega
  have d32 : decide ((b.toNat : Int) < 32) = false := decide_eq_false (by omega)
  have e127 : ((b.toNat : Int) == 127) = false := by simp; omega
  have c13 : (st == 13) = false := by simp; omega
  clear h6 k1 k2 k3
  subst hbad
  have s5 : ((tx.size : Int) == 512) = false := by simp; omega
  clear k4
  unfold cS
  dsimp only at *
  have hx1 := Box.new (w.alloc (.cells #[.int .i64 st, .slice au nu cu, .int .u8 (pr.toNat : Int), .int .u8 (fi.toNat : Int), .slice aq nq cq, .string it, .string tx, .bool false] 25)) #[.int .i64 0, .slice none 0 0, .int .u8 0, .int .u8 0, .slice none 0 0, .string ⟨#[]⟩, .string ⟨#[]⟩, .bool false] 25
  have hb1 : Below w.heap.size w ((w.alloc (.cells #[.int .i64 st, .slice au nu cu, .int .u8 (pr.toNat : Int), .int .u8 (fi.toNat : Int), .slice aq nq cq, .string it, .string tx, .bool false] 25)).alloc (.cells #[.int .i64 0, .slice none 0 0, .int .u8 0, .int .u8 0, .slice none 0 0, .string ⟨#[]⟩, .string ⟨#[]⟩, .bool false] 25)) := up (below_box _ _) (below_box _ _)
  rw [World.size_alloc] at hx1
  have HX1 := Lib.hid hx1
  have HB1 := Lib.hid hb1
  clear hx1 hb1
  have hlen : ¬ 9223372036854775807 < tx.size + 1 := by omega
  have hcv := str1 ((w.alloc (.cells #[.int .i64 st, .slice au nu cu, .int .u8 (pr.toNat : Int), .int .u8 (fi.toNat : Int), .slice aq nq cq, .string it, .string tx, .bool false] 25)).alloc (.cells #[.int .i64 0, .slice none 0 0, .int .u8 0, .int .u8 0, .slice none 0 0, .string ⟨#[]⟩, .string ⟨#[]⟩, .bool false] 25)) b 5
  rw [World.size_alloc, World.size_alloc] at hcv
  have hsz : (bs1 b).size = 1 := rfl
  generalize bs1 b = B at hcv hsz ⊢
  go_enter Tryz.func54, Tryz.ntmps54
  go_wp2
  have hb3 : Below w.heap.size w (((w.alloc (.cells #[.int .i64 st, .slice au nu cu, .int .u8 (pr.toNat : Int), .int .u8 (fi.toNat : Int), .slice aq nq cq, .string it, .string (tx ++ B), .bool false] 25)).alloc (.cells #[.int .i64 st, .slice au nu cu, .int .u8 (pr.toNat : Int), .int .u8 (fi.toNat : Int), .slice aq nq cq, .string it, .string (tx ++ B), .bool false] 25)).alloc (.cells #[.int .u8 (b.toNat : Int)] 5)) := up (up (below_box _ _) (below_box _ _)) (below_box _ _)
  have hbx := (Box.new (w.alloc (.cells #[.int .i64 st, .slice au nu cu, .int .u8 (pr.toNat : Int), .int .u8 (fi.toNat : Int), .slice aq nq cq, .string it, .string (tx ++ B), .bool false] 25)) #[.int .i64 st, .slice au nu cu, .int .u8 (pr.toNat : Int), .int .u8 (fi.toNat : Int), .slice aq nq cq, .string it, .string (tx ++ B), .bool false] 25).alloc (.cells #[.int .u8 (b.toNat : Int)] 5)
  rw [World.size_alloc] at hbx
  refine bodyPost_ret (ret_cell rfl _ _ ⟨w.heap.size + 1, 0, none⟩ _ rfl (load_par8 _ _ _ _ _ _ _ _ _ _ hbx)) rfl ?_
  exact ⟨_, _, _, rfl, fun W hW => ⟨HRS.out.keepP hW.1, RV.nil _⟩, hb3⟩
set_option maxRecDepth 100000 in
set_option maxHeartbeats 8000000 in
theorem within_by (p : PS) (b : UInt8) (au aq : Option Addr) (nu cu nq cq : Nat) (w0 w : World) (hr : RS w0 (.slice au nu cu) (.slice aq nq cq) p) (hi : p.tx.size ≤ 1000000) (h6 : p.st = 6) (h7 : b.toNat ≠ 7) (k1 : b.toNat < 32) :
    Calls Tryz.prog 54 #[.agg (cS p (.slice au nu cu) (.slice aq nq cq)), .int .u8 (b.toNat : Int)] w (Ret2 (p, []) w0 w) := by
  have HRS := Lib.hid hr; clear hr
  obtain ⟨st, utf, pr, fi, pp, it, tx, bad⟩ := p
  dsimp only at *
  have hst : st = 6 := by omega
  subst hst
  have e7 : ((b.toNat : Int) == 7) = false := by simp; omega
  have d32 : decide ((b.toNat : Int) < 32) = true := decide_eq_true (by omega)
  clear h6 h7 k1
  unfold cS
  dsimp only at *
  have hx1 := Box.new (w.alloc (.cells #[.int .i64 6, .slice au nu cu, .int .u8 (pr.toNat : Int), .int .u8 (fi.toNat : Int), .slice aq nq cq, .string it, .string tx, .bool bad] 25)) #[.int .i64 0, .slice none 0 0, .int .u8 0, .int .u8 0, .slice none 0 0, .string ⟨#[]⟩, .string ⟨#[]⟩, .bool false] 25
  have hb1 : Below w.heap.size w ((w.alloc (.cells #[.int .i64 6, .slice au nu cu, .int .u8 (pr.toNat : Int), .int .u8 (fi.toNat : Int), .slice aq nq cq, .string it, .string tx, .bool bad] 25)).alloc (.cells #[.int .i64 0, .slice none 0 0, .int .u8 0, .int .u8 0, .slice none 0 0, .string ⟨#[]⟩, .string ⟨#[]⟩, .bool false] 25)) := up (below_box _ _) (below_box _ _)
  rw [World.size_alloc] at hx1
  have HX1 := Lib.hid hx1
  have HB1 := Lib.hid hb1
  clear hx1 hb1
  go_enter Tryz.func54, Tryz.ntmps54
  go_wp2
  have hbx := Box.new (w.alloc (.cells #[.int .i64 6, .slice au nu cu, .int .u8 (pr.toNat : Int), .int .u8 (fi.toNat : Int), .slice aq nq cq, .string it, .string tx, .bool bad] 25)) #[.int .i64 6, .slice au nu cu, .int .u8 (pr.toNat : Int), .int .u8 (fi.toNat : Int), .slice aq nq cq, .string it, .string tx, .bool bad] 25
  rw [World.size_alloc] at hbx
  refine bodyPost_ret (ret_cell rfl _ _ ⟨w.heap.size + 1, 0, none⟩ _ rfl (load_par8 _ _ _ _ _ _ _ _ _ _ hbx)) rfl ?_
  exact ⟨_, _, _, rfl, fun W hW => ⟨HRS.out.keepP hW.1, RV.nil _⟩, up (below_box _ _) (below_box _ _)⟩
set_option maxRecDepth 100000 in
set_option maxHeartbeats 8000000 in
theorem within_cy (p : PS) (b : UInt8) (au aq : Option Addr) (nu cu nq cq : Nat) (w0 w : World) (hr : RS w0 (.slice au nu cu) (.slice aq nq cq) p) (hi : p.tx.size ≤ 1000000) (h6 : p.st = 6) (k2 : b.toNat = 127) :
    Calls Tryz.prog 54 #[.agg (cS p (.slice au nu cu) (.slice aq nq cq)), .int .u8 (b.toNat : Int)] w (Ret2 (p, []) w0 w) := by
  have HRS := Lib.hid hr; clear hr
  obtain ⟨st, utf, pr, fi, pp, it, tx, bad⟩ := p
  dsimp only at *
  have hst : st = 6 := by omega
  subst hst
  have hbv : (b.toNat : Int) = 127 := by omega
  rw [hbv]
  clear hbv
  clear h6 k2
  unfold cS
  dsimp only at *
  have hx1 := Box.new (w.alloc (.cells #[.int .i64 6, .slice au nu cu, .int .u8 (pr.toNat : Int), .int .u8 (fi.toNat : Int), .slice aq nq cq, .string it, .string tx, .bool bad] 25)) #[.int .i64 0, .slice none 0 0, .int .u8 0, .int .u8 0, .slice none 0 0, .string ⟨#[]⟩, .string ⟨#[]⟩, .bool false] 25
  have hb1 : Below w.heap.size w ((w.alloc (.cells #[.int .i64 6, .slice au nu cu, .int .u8 (pr.toNat : Int), .int .u8 (fi.toNat : Int), .slice aq nq cq, .string it, .string tx, .bool bad] 25)).alloc (.cells #[.int .i64 0, .slice none 0 0, .int .u8 0, .int .u8 0, .slice none 0 0, .string ⟨#[]⟩, .string ⟨#[]⟩, .bool false] 25)) := up (below_box _ _) (below_box _ _)
  rw [World.size_alloc] at hx1
  have HX1 := Lib.hid hx1
  have HB1 := Lib.hid hb1
  clear hx1 hb1
  go_enter Tryz.func54, Tryz.ntmps54
  go_wp2
  have hbx := Box.new (w.alloc (.cells #[.int .i64 6, .slice au nu cu, .int .u8 (pr.toNat : Int), .int .u8 (fi.toNat : Int), .slice aq nq cq, .string it, .string tx, .bool bad] 25)) #[.int .i64 6, .slice au nu cu, .int .u8 (pr.toNat : Int), .int .u8 (fi.toNat : Int), .slice aq nq cq, .string it, .string tx, .bool bad] 25
  rw [World.size_alloc] at hbx
  refine bodyPost_ret (ret_cell rfl _ _ ⟨w.heap.size + 1, 0, none⟩ _ rfl (load_par8 _ _ _ _ _ _ _ _ _ _ hbx)) rfl ?_
  exact ⟨_, _, _, rfl, fun W hW => ⟨HRS.out.keepP hW.1, RV.nil _⟩, up (below_box _ _) (below_box _ _)⟩
set_option maxRecDepth 100000 in
set_option maxHeartbeats 8000000 in
theorem within_ey (p : PS) (b : UInt8) (au aq : Option Addr) (nu cu nq cq : Nat) (w0 w : World) (hr : RS w0 (.slice au nu cu) (.slice aq nq cq) p) (hi : p.tx.size ≤ 1000000) (h6 : p.st = 6) (k1 : ¬ b.toNat < 32) (k2 : b.toNat ≠ 127) (k3 : p.st ≠ 13) (hbad : p.bad = true) :
    Calls Tryz.prog 54 #[.agg (cS p (.slice au nu cu) (.slice aq nq cq)), .int .u8 (b.toNat : Int)] w (Ret2 (p, []) w0 w) := by
  have HRS := Lib.hid hr; clear hr
  obtain ⟨st, utf, pr, fi, pp, it, tx, bad⟩ := p
  dsimp only at *
  have hst : st = 6 := by omega
  subst hst
  have e7 : ((b.toNat : Int) == 7) = false := by simp; omega
  have d32 : decide ((b.toNat : Int) < 32) = false := decide_eq_false (by omega)
  have e127 : ((b.toNat : Int) == 127) = false := by simp; omega
  clear h6 k1 k2 k3
  subst hbad
  unfold cS
  dsimp only at *
  have hx1 := Box.new (w.alloc (.cells #[.int .i64 6, .slice au nu cu, .int .u8 (pr.toNat : Int), .int .u8 (fi.toNat : Int), .slice aq nq cq, .string it, .string tx, .bool true] 25)) #[.int .i64 0, .slice none 0 0, .int .u8 0, .int .u8 0, .slice none 0 0, .string ⟨#[]⟩, .string ⟨#[]⟩, .bool false] 25
  have hb1 : Below w.heap.size w ((w.alloc (.cells #[.int .i64 6, .slice au nu cu, .int .u8 (pr.toNat : Int), .int .u8 (fi.toNat : Int), .slice aq nq cq, .string it, .string tx, .bool true] 25)).alloc (.cells #[.int .i64 0, .slice none 0 0, .int .u8 0, .int .u8 0, .slice none 0 0, .string ⟨#[]⟩, .string ⟨#[]⟩, .bool false] 25)) := up (below_box _ _) (below_box _ _)
  rw [World.size_alloc] at hx1
  have HX1 := Lib.hid hx1
  have HB1 := Lib.hid hb1
  clear hx1 hb1
  go_enter Tryz.func54, Tryz.ntmps54
  go_wp2
  have hbx := Box.new (w.alloc (.cells #[.int .i64 6, .slice au nu cu, .int .u8 (pr.toNat : Int), .int .u8 (fi.toNat : Int), .slice aq nq cq, .string it, .string tx, .bool true] 25)) #[.int .i64 6, .slice au nu cu, .int .u8 (pr.toNat : Int), .int .u8 (fi.toNat : Int), .slice aq nq cq, .string it, .string tx, .bool true] 25
  rw [World.size_alloc] at hbx
  refine bodyPost_ret (ret_cell rfl _ _ ⟨w.heap.size + 1, 0, none⟩ _ rfl (load_par8 _ _ _ _ _ _ _ _ _ _ hbx)) rfl ?_
  exact ⟨_, _, _, rfl, fun W hW => ⟨HRS.out.keepP hW.1, RV.nil _⟩, up (below_box _ _) (below_box _ _)⟩
set_option maxRecDepth 100000 in
set_option maxHeartbeats 8000000 in
theorem within_fy (p : PS) (b : UInt8) (au aq : Option Addr) (nu cu nq cq : Nat) (w0 w : World) (hr : RS w0 (.slice au nu cu) (.slice aq nq cq) p) (hi : p.tx.size ≤ 1000000) (h6 : p.st = 6) (k1 : ¬ b.toNat < 32) (k2 : b.toNat ≠ 127) (k3 : p.st ≠ 13) (hbad : p.bad = false) (k4 : p.tx.size = 512) :
    Calls Tryz.prog 54 #[.agg (cS p (.slice au nu cu) (.slice aq nq cq)), .int .u8 (b.toNat : Int)] w (Ret2 (spoS p.st, []) w0 w) := by
  have HRS := Lib.hid hr; clear hr
  obtain ⟨st, utf, pr, fi, pp, it, tx, bad⟩ := p
  dsimp only at *
  have hst : st = 6 := by omega
  subst hst
  have e7 : ((b.toNat : Int) == 7) = false := by simp; omega
  have d32 : decide ((b.toNat : Int) < 32) = false := decide_eq_false (by omega)
  have e127 : ((b.toNat : Int) == 127) = false := by simp; omega
  clear h6 k1 k2 k3
  subst hbad
  have s5 : ((tx.size : Int) == 512) = true := by simp; omega
  clear k4
  unfold cS
  dsimp only at *
  have hx1 := Box.new (w.alloc (.cells #[.int .i64 6, .slice au nu cu, .int .u8 (pr.toNat : Int), .int .u8 (fi.toNat : Int), .slice aq nq cq, .string it, .string tx, .bool false] 25)) #[.int .i64 0, .slice none 0 0, .int .u8 0, .int .u8 0, .slice none 0 0, .string ⟨#[]⟩, .string ⟨#[]⟩, .bool false] 25
  have hb1 : Below w.heap.size w ((w.alloc (.cells #[.int .i64 6, .slice au nu cu, .int .u8 (pr.toNat : Int), .int .u8 (fi.toNat : Int), .slice aq nq cq, .string it, .string tx, .bool false] 25)).alloc (.cells #[.int .i64 0, .slice none 0 0, .int .u8 0, .int .u8 0, .slice none 0 0, .string ⟨#[]⟩, .string ⟨#[]⟩, .bool false] 25)) := up (below_box _ _) (below_box _ _)
  rw [World.size_alloc] at hx1
  have HX1 := Lib.hid hx1
  have HB1 := Lib.hid hb1
  clear hx1 hb1
  go_enter Tryz.func54, Tryz.ntmps54
  go_wp2_with (go_at_call 72; refine (spoilt_any _ _).mono ?_; rintro e w3 ⟨rfl, hb3⟩; have hx3 := HX1.out.keep hb3; obtain ⟨z0, y0, z1, y1, z2, y2, z3, y3, z4, y4, z5, y5, z6, y6, z7, y7⟩ := cf8 hx3; have l3 := hx3.1; have HX3 := Lib.hid hx3; clear hx3)
  refine bodyPost_ret (ret_cell rfl _ _ ⟨w.heap.size + 1, 0, none⟩ _ rfl (load_par8 _ _ _ _ _ _ _ _ _ _ (box_set8 _ _ _ _ _ _ _ _ HX3.out))) rfl ?_
  exact ⟨_, _, _, rfl, fun W hW => ⟨RS.nil _ _ rfl rfl, RV.nil _⟩, below_set8 _ _ _ _ _ _ _ _ _ (up HB1.out hb3) (by omega)⟩
set_option maxRecDepth 100000 in
set_option maxHeartbeats 8000000 in
theorem within_gy (p : PS) (b : UInt8) (au aq : Option Addr) (nu cu nq cq : Nat) (w0 w : World) (hr : RS w0 (.slice au nu cu) (.slice aq nq cq) p) (hi : p.tx.size ≤ 1000000) (h6 : p.st = 6) (k1 : ¬ b.toNat < 32) (k2 : b.toNat ≠ 127) (k3 : p.st ≠ 13) (hbad : p.bad = false) (k4 : p.tx.size ≠ 512) :
    Calls Tryz.prog 54 #[.agg (cS p (.slice au nu cu) (.slice aq nq cq)), .int .u8 (b.toNat : Int)] w (Ret2 ({ p with tx := p.tx ++ bs1 b }, []) w0 w) := by
  have HRS := Lib.hid hr; clear hr
  obtain ⟨st, utf, pr, fi, pp, it, tx, bad⟩ := p
  dsimp only at *
  have hst : st = 6 := by omega
  subst hst
  have e7 : ((b.toNat : Int) == 7) = false := by simp; omega
  have d32 : decide ((b.toNat : Int) < 32) = false := decide_eq_false (by omega)
  have e127 : ((b.toNat : Int) == 127) = false := by simp; omega
  clear h6 k1 k2 k3
  subst hbad
  have s5 : ((tx.size : Int) == 512) = false := by simp; omega
  clear k4
  unfold cS
  dsimp only at *
  have hx1 := Box.new (w.alloc (.cells #[.int .i64 6, .slice au nu cu, .int .u8 (pr.toNat : Int), .int .u8 (fi.toNat : Int), .slice aq nq cq, .string it, .string tx, .bool false] 25)) #[.int .i64 0, .slice none 0 0, .int .u8 0, .int .u8 0, .slice none 0 0, .string ⟨#[]⟩, .string ⟨#[]⟩, .bool false] 25
  have hb1 : Below w.heap.size w ((w.alloc (.cells #[.int .i64 6, .slice au nu cu, .int .u8 (pr.toNat : Int), .int .u8 (fi.toNat : Int), .slice aq nq cq, .string it, .string tx, .bool false] 25)).alloc (.cells #[.int .i64 0, .slice none 0 0, .int .u8 0, .int .u8 0, .slice none 0 0, .string ⟨#[]⟩, .string ⟨#[]⟩, .bool false] 25)) := up (below_box _ _) (below_box _ _)
  rw [World.size_alloc] at hx1
  have HX1 := Lib.hid hx1
  have HB1 := Lib.hid hb1
  clear hx1 hb1
  have hlen : ¬ 9223372036854775807 < tx.size + 1 := by omega
  have hcv := str1 ((w.alloc (.cells #[.int .i64 6, .slice au nu cu, .int .u8 (pr.toNat : Int), .int .u8 (fi.toNat : Int), .slice aq nq cq, .string it, .string tx, .bool false] 25)).alloc (.cells #[.int .i64 0, .slice none 0 0, .int .u8 0, .int .u8 0, .slice none 0 0, .string ⟨#[]⟩, .string ⟨#[]⟩, .bool false] 25)) b 5
  rw [World.size_alloc, World.size_alloc] at hcv
  have hsz : (bs1 b).size = 1 := rfl
  generalize bs1 b = B at hcv hsz ⊢
  go_enter Tryz.func54, Tryz.ntmps54
  go_wp2
  have hb3 : Below w.heap.size w (((w.alloc (.cells #[.int .i64 6, .slice au nu cu, .int .u8 (pr.toNat : Int), .int .u8 (fi.toNat : Int), .slice aq nq cq, .string it, .string (tx ++ B), .bool false] 25)).alloc (.cells #[.int .i64 6, .slice au nu cu, .int .u8 (pr.toNat : Int), .int .u8 (fi.toNat : Int), .slice aq nq cq, .string it, .string (tx ++ B), .bool false] 25)).alloc (.cells #[.int .u8 (b.toNat : Int)] 5)) := up (up (below_box _ _) (below_box _ _)) (below_box _ _)
  have hbx := (Box.new (w.alloc (.cells #[.int .i64 6, .slice au nu cu, .int .u8 (pr.toNat : Int), .int .u8 (fi.toNat : Int), .slice aq nq cq, .string it, .string (tx ++ B), .bool false] 25)) #[.int .i64 6, .slice au nu cu, .int .u8 (pr.toNat : Int), .int .u8 (fi.toNat : Int), .slice aq nq cq, .string it, .string (tx ++ B), .bool false] 25).alloc (.cells #[.int .u8 (b.toNat : Int)] 5)
  rw [World.size_alloc] at hbx
  refine bodyPost_ret (ret_cell rfl _ _ ⟨w.heap.size + 1, 0, none⟩ _ rfl (load_par8 _ _ _ _ _ _ _ _ _ _ hbx)) rfl ?_
  exact ⟨_, _, _, rfl, fun W hW => ⟨HRS.out.keepP hW.1, RV.nil _⟩, hb3⟩
/-- within, whole -/
theorem within_any (p : PS) (b : UInt8) (au aq : Option Addr) (nu cu nq cq : Nat) (w0 w : World) (hr : RS w0 (.slice au nu cu) (.slice aq nq cq) p) (hi : p.tx.size ≤ 1000000) :
    Calls Tryz.prog 54 #[.agg (cS p (.slice au nu cu) (.slice aq nq cq)), .int .u8 (b.toNat : Int)] w (Ret2 (witS p b) w0 w) := by
  unfold witS
  by_cases h6 : p.st = 6
  · by_cases h7 : b.toNat = 7
    · rw [if_pos ⟨h6, h7⟩]; exact within_a p b au aq nu cu nq cq w0 w hr hi h6 h7
    · rw [if_neg (fun h => h7 h.2)]
      by_cases k1 : b.toNat < 32
      · rw [if_pos (.inl k1)]; exact within_by p b au aq nu cu nq cq w0 w hr hi h6 h7 k1
      · by_cases k2 : b.toNat = 127
        · rw [if_pos (.inr (.inl k2))]; exact within_cy p b au aq nu cu nq cq w0 w hr hi h6 k2
        · cases hbad : p.bad with
          | true => rw [if_pos (.inr (.inr (.inr rfl)))]; exact within_ey p b au aq nu cu nq cq w0 w hr hi h6 k1 k2 (by omega) hbad
          | false =>
            rw [if_neg (by simp; omega)]
            by_cases k4 : p.tx.size = 512
            · rw [if_pos k4]; exact within_fy p b au aq nu cu nq cq w0 w hr hi h6 k1 k2 (by omega) hbad k4
            · rw [if_neg k4]; have h := within_gy p b au aq nu cu nq cq w0 w hr hi h6 k1 k2 (by omega) hbad k4; rw [hbad] at h; exact h
  · rw [if_neg (fun h => h6 h.1)]
    by_cases k1 : b.toNat < 32
    · rw [if_pos (.inl k1)]; exact within_bx p b au aq nu cu nq cq w0 w hr hi h6 k1
    · by_cases k2 : b.toNat = 127
      · rw [if_pos (.inr (.inl k2))]; exact within_cx p b au aq nu cu nq cq w0 w hr hi h6 k2
      · by_cases k3 : p.st = 13
        · rw [if_pos (.inr (.inr (.inl k3)))]; exact within_dx p b au aq nu cu nq cq w0 w hr hi h6 k1 k2 k3
        · cases hbad : p.bad with
          | true => rw [if_pos (.inr (.inr (.inr rfl)))]; exact within_ex p b au aq nu cu nq cq w0 w hr hi h6 k1 k2 k3 hbad
          | false =>
            rw [if_neg (by simp; omega)]
            by_cases k4 : p.tx.size = 512
            · rw [if_pos k4]; exact within_fx p b au aq nu cu nq cq w0 w hr hi h6 k1 k2 k3 hbad k4
            · rw [if_neg k4]; have h := within_gx p b au aq nu cu nq cq w0 w hr hi h6 k1 k2 k3 hbad k4; rw [hbad] at h; exact h
end Go.Proofs.YtmboekpomjgnnaaGreatDoor.Sta
