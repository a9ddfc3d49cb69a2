/-
  StaKa
-/
import Derived.Test.YtmboekpomjgnnaaGreatDoorF25
import Derived.Test.YtmboekpomjgnnaaGreatDoorF29
namespace Go.Proofs.YtmboekpomjgnnaaGreatDoor.Sta
open Go.RowKit Utf Par

theorem ownL_agr {W W' : World} {B : Nat} {v : Value} {l : List (List Int)} (h : OwnL W B v l) (ha : ∀ k, B ≤ k → k < W.heap.size → W'.heap[k]? = W.heap[k]?) : OwnL W' B v l := by
  obtain ⟨vs, h1, h2, h3⟩ := h
  have key : ∀ {e : TypeId} {u : Value} {n : Nat} {xs : List Value}, W.ownsRow B e 1 u n xs → W'.ownsRow B e 1 u n xs := fun {e u n xs} hr => by
    obtain ⟨hl, hd⟩ := hr
    refine ⟨hl, hd.imp id ?_⟩
    rintro ⟨g, cap, cur, rfl, hB, hg, rest⟩
    exact ⟨g, cap, cur, rfl, hB, by rw [ha g hB (Array.getElem?_eq_some_iff.1 hg).1]; exact hg, rest⟩
  exact ⟨vs, key h1, h2, fun j x p hx hp => key (h3 j x p hx hp)⟩
set_option maxRecDepth 100000 in
set_option maxHeartbeats 8000000 in
theorem goes_2D (p : PS) (b : UInt8) (au aq : Option Addr) (nu cu nq cq : Nat) (w0 w : World) (hr : RS w0 (.slice au nu cu) (.slice aq nq cq) p) (hw : Pre w0 w) (h0 : p.st = 2) (k : 48 ≤ b.toNat) (k2 : b.toNat ≤ 59) :
    Calls Tryz.prog 55 #[.agg (cS p (.slice au nu cu) (.slice aq nq cq)), .int .u8 (b.toNat : Int)] w (Ret2 (tolS p (esE p.it b)) w0 w) := by
  have HRS := Lib.hid hr; clear hr
  have HW0 := Lib.hid hw; clear hw
  obtain ⟨st, utf, pr, fi, pp, it, tx, bad⟩ := p
  dsimp only at *
  have hst : st = 2 := by omega
  subst hst
  have d_l47 : decide ((b.toNat : Int) ≤ 47) = false := decide_eq_false (by omega)
  have d_g48 : decide ((48 : Int) ≤ (b.toNat : Int)) = true := decide_eq_true (by omega)
  have d_l59 : decide ((b.toNat : Int) ≤ 59) = true := decide_eq_true (by omega)
  have d_g60 : decide ((60 : Int) ≤ (b.toNat : Int)) = false := decide_eq_false (by omega)
  have d_l63 : decide ((b.toNat : Int) ≤ 63) = true := decide_eq_true (by omega)
  clear k k2 h0
  unfold cS
  dsimp only at *
  have hx1 := Box.new (w.alloc (.cells #[.int .i64 2, .slice au nu cu, .int .u8 (pr.toNat : Int), .int .u8 (fi.toNat : Int), .slice aq nq cq, .string it, .string tx, .bool bad] 25)) #[.int .i64 0, .slice none 0 0, .int .u8 0, .int .u8 0, .slice none 0 0, .string ⟨#[]⟩, .string ⟨#[]⟩, .bool false] 25
  have hb1 : Below w.heap.size w ((w.alloc (.cells #[.int .i64 2, .slice au nu cu, .int .u8 (pr.toNat : Int), .int .u8 (fi.toNat : Int), .slice aq nq cq, .string it, .string tx, .bool bad] 25)).alloc (.cells #[.int .i64 0, .slice none 0 0, .int .u8 0, .int .u8 0, .slice none 0 0, .string ⟨#[]⟩, .string ⟨#[]⟩, .bool false] 25)) := up (below_box _ _) (below_box _ _)
  rw [World.size_alloc] at hx1
  have HX1 := Lib.hid hx1
  have HB1 := Lib.hid hb1
  clear hx1 hb1
  go_enter Tryz.func55, Tryz.ntmps55
  go_wp2_with (go_at_call 71; refine (told_is ⟨2, utf, pr, fi, pp, it, tx, bad⟩ (esE it b) au aq none nu cu nq cq 0 0 w0 _ (RL.nil _)).mono ?_; rintro e w3 ⟨vv, rfl, hv3, hb3⟩; have hx3 := HX1.out.keep hb3; obtain ⟨z0, y0, z1, y1, z2, y2, z3, y3, z4, y4, z5, y5, z6, y6, z7, y7⟩ := cf8 hx3; have l3 := hx3.1; have HX3 := Lib.hid hx3; clear hx3)
  refine bodyPost_ret (ret_cell rfl _ _ ⟨w.heap.size + 1, 0, none⟩ _ rfl (load_par8 _ _ _ _ _ _ _ _ _ _ (box_set8 _ _ _ _ _ _ _ _ HX3.out))) rfl ?_
  exact ⟨_, _, _, by rw [tolS_fst]; rfl, fun W hW => ⟨by rw [tolS_fst]; exact RS.nil _ _ rfl rfl, hv3 W (hW.down (by simp; omega) (grown_set8 _ _ _ _ _ _ _ _ _ _) (by simp))⟩, below_set8 _ _ _ _ _ _ _ _ _ (up HB1.out hb3) (by omega)⟩
set_option maxRecDepth 100000 in
set_option maxHeartbeats 8000000 in
theorem goes_2V (p : PS) (b : UInt8) (au aq : Option Addr) (nu cu nq cq : Nat) (w0 w : World) (hr : RS w0 (.slice au nu cu) (.slice aq nq cq) p) (hw : Pre w0 w) (h0 : p.st = 2) (k : 60 ≤ b.toNat) (k2 : b.toNat ≤ 63) :
    Calls Tryz.prog 55 #[.agg (cS p (.slice au nu cu) (.slice aq nq cq)), .int .u8 (b.toNat : Int)] w (Ret2 (tolS p (esE p.it b)) w0 w) := by
  have HRS := Lib.hid hr; clear hr
  have HW0 := Lib.hid hw; clear hw
  obtain ⟨st, utf, pr, fi, pp, it, tx, bad⟩ := p
  dsimp only at *
  have hst : st = 2 := by omega
  subst hst
  have d_l47 : decide ((b.toNat : Int) ≤ 47) = false := decide_eq_false (by omega)
  have d_g48 : decide ((48 : Int) ≤ (b.toNat : Int)) = true := decide_eq_true (by omega)
  have d_l59 : decide ((b.toNat : Int) ≤ 59) = false := decide_eq_false (by omega)
  have d_g60 : decide ((60 : Int) ≤ (b.toNat : Int)) = true := decide_eq_true (by omega)
  have d_l63 : decide ((b.toNat : Int) ≤ 63) = true := decide_eq_true (by omega)
  clear k k2 h0
  unfold cS
  dsimp only at *
  have hx1 := Box.new (w.alloc (.cells #[.int .i64 2, .slice au nu cu, .int .u8 (pr.toNat : Int), .int .u8 (fi.toNat : Int), .slice aq nq cq, .string it, .string tx, .bool bad] 25)) #[.int .i64 0, .slice none 0 0, .int .u8 0, .int .u8 0, .slice none 0 0, .string ⟨#[]⟩, .string ⟨#[]⟩, .bool false] 25
  have hb1 : Below w.heap.size w ((w.alloc (.cells #[.int .i64 2, .slice au nu cu, .int .u8 (pr.toNat : Int), .int .u8 (fi.toNat : Int), .slice aq nq cq, .string it, .string tx, .bool bad] 25)).alloc (.cells #[.int .i64 0, .slice none 0 0, .int .u8 0, .int .u8 0, .slice none 0 0, .string ⟨#[]⟩, .string ⟨#[]⟩, .bool false] 25)) := up (below_box _ _) (below_box _ _)
  rw [World.size_alloc] at hx1
  have HX1 := Lib.hid hx1
  have HB1 := Lib.hid hb1
  clear hx1 hb1
  go_enter Tryz.func55, Tryz.ntmps55
  go_wp2_with (go_at_call 71; refine (told_is ⟨2, utf, pr, fi, pp, it, tx, bad⟩ (esE it b) au aq none nu cu nq cq 0 0 w0 _ (RL.nil _)).mono ?_; rintro e w3 ⟨vv, rfl, hv3, hb3⟩; have hx3 := HX1.out.keep hb3; obtain ⟨z0, y0, z1, y1, z2, y2, z3, y3, z4, y4, z5, y5, z6, y6, z7, y7⟩ := cf8 hx3; have l3 := hx3.1; have HX3 := Lib.hid hx3; clear hx3)
  refine bodyPost_ret (ret_cell rfl _ _ ⟨w.heap.size + 1, 0, none⟩ _ rfl (load_par8 _ _ _ _ _ _ _ _ _ _ (box_set8 _ _ _ _ _ _ _ _ HX3.out))) rfl ?_
  exact ⟨_, _, _, by rw [tolS_fst]; rfl, fun W hW => ⟨by rw [tolS_fst]; exact RS.nil _ _ rfl rfl, hv3 W (hW.down (by simp; omega) (grown_set8 _ _ _ _ _ _ _ _ _ _) (by simp))⟩, below_set8 _ _ _ _ _ _ _ _ _ (up HB1.out hb3) (by omega)⟩
set_option maxRecDepth 100000 in
set_option maxHeartbeats 8000000 in
theorem goes_2F (p : PS) (b : UInt8) (au aq : Option Addr) (nu cu nq cq : Nat) (w0 w : World) (hr : RS w0 (.slice au nu cu) (.slice aq nq cq) p) (hw : Pre w0 w) (h0 : p.st = 2) (k : 64 ≤ b.toNat) :
    Calls Tryz.prog 55 #[.agg (cS p (.slice au nu cu) (.slice aq nq cq)), .int .u8 (b.toNat : Int)] w (Ret2 (tolS p (esE p.it b)) w0 w) := by
  have HRS := Lib.hid hr; clear hr
  have HW0 := Lib.hid hw; clear hw
  obtain ⟨st, utf, pr, fi, pp, it, tx, bad⟩ := p
  dsimp only at *
  have hst : st = 2 := by omega
  subst hst
  have d_l47 : decide ((b.toNat : Int) ≤ 47) = false := decide_eq_false (by omega)
  have d_g48 : decide ((48 : Int) ≤ (b.toNat : Int)) = true := decide_eq_true (by omega)
  have d_l59 : decide ((b.toNat : Int) ≤ 59) = false := decide_eq_false (by omega)
  have d_g60 : decide ((60 : Int) ≤ (b.toNat : Int)) = true := decide_eq_true (by omega)
  have d_l63 : decide ((b.toNat : Int) ≤ 63) = false := decide_eq_false (by omega)
  clear k h0
  unfold cS
  dsimp only at *
  have hx1 := Box.new (w.alloc (.cells #[.int .i64 2, .slice au nu cu, .int .u8 (pr.toNat : Int), .int .u8 (fi.toNat : Int), .slice aq nq cq, .string it, .string tx, .bool bad] 25)) #[.int .i64 0, .slice none 0 0, .int .u8 0, .int .u8 0, .slice none 0 0, .string ⟨#[]⟩, .string ⟨#[]⟩, .bool false] 25
  have hb1 : Below w.heap.size w ((w.alloc (.cells #[.int .i64 2, .slice au nu cu, .int .u8 (pr.toNat : Int), .int .u8 (fi.toNat : Int), .slice aq nq cq, .string it, .string tx, .bool bad] 25)).alloc (.cells #[.int .i64 0, .slice none 0 0, .int .u8 0, .int .u8 0, .slice none 0 0, .string ⟨#[]⟩, .string ⟨#[]⟩, .bool false] 25)) := up (below_box _ _) (below_box _ _)
  rw [World.size_alloc] at hx1
  have HX1 := Lib.hid hx1
  have HB1 := Lib.hid hb1
  clear hx1 hb1
  go_enter Tryz.func55, Tryz.ntmps55
  go_wp2_with (go_at_call 71; refine (told_is ⟨2, utf, pr, fi, pp, it, tx, bad⟩ (esE it b) au aq none nu cu nq cq 0 0 w0 _ (RL.nil _)).mono ?_; rintro e w3 ⟨vv, rfl, hv3, hb3⟩; have hx3 := HX1.out.keep hb3; obtain ⟨z0, y0, z1, y1, z2, y2, z3, y3, z4, y4, z5, y5, z6, y6, z7, y7⟩ := cf8 hx3; have l3 := hx3.1; have HX3 := Lib.hid hx3; clear hx3)
  refine bodyPost_ret (ret_cell rfl _ _ ⟨w.heap.size + 1, 0, none⟩ _ rfl (load_par8 _ _ _ _ _ _ _ _ _ _ (box_set8 _ _ _ _ _ _ _ _ HX3.out))) rfl ?_
  exact ⟨_, _, _, by rw [tolS_fst]; rfl, fun W hW => ⟨by rw [tolS_fst]; exact RS.nil _ _ rfl rfl, hv3 W (hW.down (by simp; omega) (grown_set8 _ _ _ _ _ _ _ _ _ _) (by simp))⟩, below_set8 _ _ _ _ _ _ _ _ _ (up HB1.out hb3) (by omega)⟩
set_option maxRecDepth 100000 in
set_option maxHeartbeats 8000000 in
theorem goes_3F (p : PS) (b : UInt8) (au aq : Option Addr) (nu cu nq cq : Nat) (w0 w : World) (hr : RS w0 (.slice au nu cu) (.slice aq nq cq) p) (hw : Pre w0 w) (h0 : p.st = 3) (k : 64 ≤ b.toNat) :
    Calls Tryz.prog 55 #[.agg (cS p (.slice au nu cu) (.slice aq nq cq)), .int .u8 (b.toNat : Int)] w (Ret2 (tolS p (csE p b)) w0 w) := by
  have HRS := Lib.hid hr; clear hr
  have HW0 := Lib.hid hw; clear hw
  obtain ⟨st, utf, pr, fi, pp, it, tx, bad⟩ := p
  dsimp only at *
  have hst : st = 3 := by omega
  subst hst
  have d_l47 : decide ((b.toNat : Int) ≤ 47) = false := decide_eq_false (by omega)
  have d_g48 : decide ((48 : Int) ≤ (b.toNat : Int)) = true := decide_eq_true (by omega)
  have d_l59 : decide ((b.toNat : Int) ≤ 59) = false := decide_eq_false (by omega)
  have d_g60 : decide ((60 : Int) ≤ (b.toNat : Int)) = true := decide_eq_true (by omega)
  have d_l63 : decide ((b.toNat : Int) ≤ 63) = false := decide_eq_false (by omega)
  clear k h0
  unfold cS
  dsimp only at *
  have hx1 := Box.new (w.alloc (.cells #[.int .i64 3, .slice au nu cu, .int .u8 (pr.toNat : Int), .int .u8 (fi.toNat : Int), .slice aq nq cq, .string it, .string tx, .bool bad] 25)) #[.int .i64 0, .slice none 0 0, .int .u8 0, .int .u8 0, .slice none 0 0, .string ⟨#[]⟩, .string ⟨#[]⟩, .bool false] 25
  have hb1 : Below w.heap.size w ((w.alloc (.cells #[.int .i64 3, .slice au nu cu, .int .u8 (pr.toNat : Int), .int .u8 (fi.toNat : Int), .slice aq nq cq, .string it, .string tx, .bool bad] 25)).alloc (.cells #[.int .i64 0, .slice none 0 0, .int .u8 0, .int .u8 0, .slice none 0 0, .string ⟨#[]⟩, .string ⟨#[]⟩, .bool false] 25)) := up (below_box _ _) (below_box _ _)
  rw [World.size_alloc] at hx1
  have HX1 := Lib.hid hx1
  have HB1 := Lib.hid hb1
  clear hx1 hb1
  go_enter Tryz.func55, Tryz.ntmps55
  go_wp2_with (go_at_call 71; refine (told_is ⟨3, utf, pr, fi, pp, it, tx, bad⟩ (csE ⟨3, utf, pr, fi, pp, it, tx, bad⟩ b) au aq aq nu cu nq cq nq cq w0 _ HRS.out.2).mono ?_; rintro e w3 ⟨vv, rfl, hv3, hb3⟩; have hx3 := HX1.out.keep hb3; obtain ⟨z0, y0, z1, y1, z2, y2, z3, y3, z4, y4, z5, y5, z6, y6, z7, y7⟩ := cf8 hx3; have l3 := hx3.1; have HX3 := Lib.hid hx3; clear hx3)
  refine bodyPost_ret (ret_cell rfl _ _ ⟨w.heap.size + 1, 0, none⟩ _ rfl (load_par8 _ _ _ _ _ _ _ _ _ _ (box_set8 _ _ _ _ _ _ _ _ HX3.out))) rfl ?_
  exact ⟨_, _, _, by rw [tolS_fst]; rfl, fun W hW => ⟨by rw [tolS_fst]; exact RS.nil _ _ rfl rfl, hv3 W (hW.down (by simp; omega) (grown_set8 _ _ _ _ _ _ _ _ _ _) (by simp))⟩, below_set8 _ _ _ _ _ _ _ _ _ (up HB1.out hb3) (by omega)⟩
set_option maxRecDepth 100000 in
set_option maxHeartbeats 8000000 in
theorem goes_4F (p : PS) (b : UInt8) (au aq : Option Addr) (nu cu nq cq : Nat) (w0 w : World) (hr : RS w0 (.slice au nu cu) (.slice aq nq cq) p) (hw : Pre w0 w) (h0 : p.st = 4) (k : 64 ≤ b.toNat) :
    Calls Tryz.prog 55 #[.agg (cS p (.slice au nu cu) (.slice aq nq cq)), .int .u8 (b.toNat : Int)] w (Ret2 (tolS p (csE p b)) w0 w) := by
  have HRS := Lib.hid hr; clear hr
  have HW0 := Lib.hid hw; clear hw
  obtain ⟨st, utf, pr, fi, pp, it, tx, bad⟩ := p
  dsimp only at *
  have hst : st = 4 := by omega
  subst hst
  have d_l47 : decide ((b.toNat : Int) ≤ 47) = false := decide_eq_false (by omega)
  have d_g48 : decide ((48 : Int) ≤ (b.toNat : Int)) = true := decide_eq_true (by omega)
  have d_l59 : decide ((b.toNat : Int) ≤ 59) = false := decide_eq_false (by omega)
  have d_g60 : decide ((60 : Int) ≤ (b.toNat : Int)) = true := decide_eq_true (by omega)
  have d_l63 : decide ((b.toNat : Int) ≤ 63) = false := decide_eq_false (by omega)
  clear k h0
  unfold cS
  dsimp only at *
  have hx1 := Box.new (w.alloc (.cells #[.int .i64 4, .slice au nu cu, .int .u8 (pr.toNat : Int), .int .u8 (fi.toNat : Int), .slice aq nq cq, .string it, .string tx, .bool bad] 25)) #[.int .i64 0, .slice none 0 0, .int .u8 0, .int .u8 0, .slice none 0 0, .string ⟨#[]⟩, .string ⟨#[]⟩, .bool false] 25
  have hb1 : Below w.heap.size w ((w.alloc (.cells #[.int .i64 4, .slice au nu cu, .int .u8 (pr.toNat : Int), .int .u8 (fi.toNat : Int), .slice aq nq cq, .string it, .string tx, .bool bad] 25)).alloc (.cells #[.int .i64 0, .slice none 0 0, .int .u8 0, .int .u8 0, .slice none 0 0, .string ⟨#[]⟩, .string ⟨#[]⟩, .bool false] 25)) := up (below_box _ _) (below_box _ _)
  rw [World.size_alloc] at hx1
  have HX1 := Lib.hid hx1
  have HB1 := Lib.hid hb1
  clear hx1 hb1
  go_enter Tryz.func55, Tryz.ntmps55
  go_wp2_with (go_at_call 71; refine (told_is ⟨4, utf, pr, fi, pp, it, tx, bad⟩ (csE ⟨4, utf, pr, fi, pp, it, tx, bad⟩ b) au aq aq nu cu nq cq nq cq w0 _ HRS.out.2).mono ?_; rintro e w3 ⟨vv, rfl, hv3, hb3⟩; have hx3 := HX1.out.keep hb3; obtain ⟨z0, y0, z1, y1, z2, y2, z3, y3, z4, y4, z5, y5, z6, y6, z7, y7⟩ := cf8 hx3; have l3 := hx3.1; have HX3 := Lib.hid hx3; clear hx3)
  refine bodyPost_ret (ret_cell rfl _ _ ⟨w.heap.size + 1, 0, none⟩ _ rfl (load_par8 _ _ _ _ _ _ _ _ _ _ (box_set8 _ _ _ _ _ _ _ _ HX3.out))) rfl ?_
  exact ⟨_, _, _, by rw [tolS_fst]; rfl, fun W hW => ⟨by rw [tolS_fst]; exact RS.nil _ _ rfl rfl, hv3 W (hW.down (by simp; omega) (grown_set8 _ _ _ _ _ _ _ _ _ _) (by simp))⟩, below_set8 _ _ _ _ _ _ _ _ _ (up HB1.out hb3) (by omega)⟩
set_option maxRecDepth 100000 in
set_option maxHeartbeats 8000000 in
theorem goes_5F (p : PS) (b : UInt8) (au aq : Option Addr) (nu cu nq cq : Nat) (w0 w : World) (hr : RS w0 (.slice au nu cu) (.slice aq nq cq) p) (hw : Pre w0 w) (h0 : p.st = 5) (k : 64 ≤ b.toNat) :
    Calls Tryz.prog 55 #[.agg (cS p (.slice au nu cu) (.slice aq nq cq)), .int .u8 (b.toNat : Int)] w (Ret2 (tolS p (csE p b)) w0 w) := by
  have HRS := Lib.hid hr; clear hr
  have HW0 := Lib.hid hw; clear hw
  obtain ⟨st, utf, pr, fi, pp, it, tx, bad⟩ := p
  dsimp only at *
  have hst : st = 5 := by omega
  subst hst
  have d_l47 : decide ((b.toNat : Int) ≤ 47) = false := decide_eq_false (by omega)
  have d_g48 : decide ((48 : Int) ≤ (b.toNat : Int)) = true := decide_eq_true (by omega)
  have d_l59 : decide ((b.toNat : Int) ≤ 59) = false := decide_eq_false (by omega)
  have d_g60 : decide ((60 : Int) ≤ (b.toNat : Int)) = true := decide_eq_true (by omega)
  have d_l63 : decide ((b.toNat : Int) ≤ 63) = false := decide_eq_false (by omega)
  clear k h0
  unfold cS
  dsimp only at *
  have hx1 := Box.new (w.alloc (.cells #[.int .i64 5, .slice au nu cu, .int .u8 (pr.toNat : Int), .int .u8 (fi.toNat : Int), .slice aq nq cq, .string it, .string tx, .bool bad] 25)) #[.int .i64 0, .slice none 0 0, .int .u8 0, .int .u8 0, .slice none 0 0, .string ⟨#[]⟩, .string ⟨#[]⟩, .bool false] 25
  have hb1 : Below w.heap.size w ((w.alloc (.cells #[.int .i64 5, .slice au nu cu, .int .u8 (pr.toNat : Int), .int .u8 (fi.toNat : Int), .slice aq nq cq, .string it, .string tx, .bool bad] 25)).alloc (.cells #[.int .i64 0, .slice none 0 0, .int .u8 0, .int .u8 0, .slice none 0 0, .string ⟨#[]⟩, .string ⟨#[]⟩, .bool false] 25)) := up (below_box _ _) (below_box _ _)
  rw [World.size_alloc] at hx1
  have HX1 := Lib.hid hx1
  have HB1 := Lib.hid hb1
  clear hx1 hb1
  go_enter Tryz.func55, Tryz.ntmps55
  go_wp2_with (go_at_call 71; refine (told_is ⟨5, utf, pr, fi, pp, it, tx, bad⟩ (csE ⟨5, utf, pr, fi, pp, it, tx, bad⟩ b) au aq aq nu cu nq cq nq cq w0 _ HRS.out.2).mono ?_; rintro e w3 ⟨vv, rfl, hv3, hb3⟩; have hx3 := HX1.out.keep hb3; obtain ⟨z0, y0, z1, y1, z2, y2, z3, y3, z4, y4, z5, y5, z6, y6, z7, y7⟩ := cf8 hx3; have l3 := hx3.1; have HX3 := Lib.hid hx3; clear hx3)
  refine bodyPost_ret (ret_cell rfl _ _ ⟨w.heap.size + 1, 0, none⟩ _ rfl (load_par8 _ _ _ _ _ _ _ _ _ _ (box_set8 _ _ _ _ _ _ _ _ HX3.out))) rfl ?_
  exact ⟨_, _, _, by rw [tolS_fst]; rfl, fun W hW => ⟨by rw [tolS_fst]; exact RS.nil _ _ rfl rfl, hv3 W (hW.down (by simp; omega) (grown_set8 _ _ _ _ _ _ _ _ _ _) (by simp))⟩, below_set8 _ _ _ _ _ _ _ _ _ (up HB1.out hb3) (by omega)⟩
set_option maxRecDepth 100000 in
set_option maxHeartbeats 8000000 in
theorem goes_5D (p : PS) (b : UInt8) (au aq : Option Addr) (nu cu nq cq : Nat) (w0 w : World) (hr : RS w0 (.slice au nu cu) (.slice aq nq cq) p) (hw : Pre w0 w) (h0 : p.st = 5) (k : 48 ≤ b.toNat) (k2 : b.toNat ≤ 59) :
    Calls Tryz.prog 55 #[.agg (cS p (.slice au nu cu) (.slice aq nq cq)), .int .u8 (b.toNat : Int)] w (Ret2 (spoS p.st, []) w0 w) := by
  have HRS := Lib.hid hr; clear hr
  have HW0 := Lib.hid hw; clear hw
  obtain ⟨st, utf, pr, fi, pp, it, tx, bad⟩ := p
  dsimp only at *
  have hst : st = 5 := by omega
  subst hst
  have d_l47 : decide ((b.toNat : Int) ≤ 47) = false := decide_eq_false (by omega)
  have d_g48 : decide ((48 : Int) ≤ (b.toNat : Int)) = true := decide_eq_true (by omega)
  have d_l59 : decide ((b.toNat : Int) ≤ 59) = true := decide_eq_true (by omega)
  have d_g60 : decide ((60 : Int) ≤ (b.toNat : Int)) = false := decide_eq_false (by omega)
  have d_l63 : decide ((b.toNat : Int) ≤ 63) = true := decide_eq_true (by omega)
  clear k k2 h0
  unfold cS
  dsimp only at *
  have hx1 := Box.new (w.alloc (.cells #[.int .i64 5, .slice au nu cu, .int .u8 (pr.toNat : Int), .int .u8 (fi.toNat : Int), .slice aq nq cq, .string it, .string tx, .bool bad] 25)) #[.int .i64 0, .slice none 0 0, .int .u8 0, .int .u8 0, .slice none 0 0, .string ⟨#[]⟩, .string ⟨#[]⟩, .bool false] 25
  have hb1 : Below w.heap.size w ((w.alloc (.cells #[.int .i64 5, .slice au nu cu, .int .u8 (pr.toNat : Int), .int .u8 (fi.toNat : Int), .slice aq nq cq, .string it, .string tx, .bool bad] 25)).alloc (.cells #[.int .i64 0, .slice none 0 0, .int .u8 0, .int .u8 0, .slice none 0 0, .string ⟨#[]⟩, .string ⟨#[]⟩, .bool false] 25)) := up (below_box _ _) (below_box _ _)
  rw [World.size_alloc] at hx1
  have HX1 := Lib.hid hx1
  have HB1 := Lib.hid hb1
  clear hx1 hb1
  go_enter Tryz.func55, Tryz.ntmps55
  go_wp2_with (go_at_call 72; refine (spoilt_any _ _).mono ?_; rintro e w3 ⟨rfl, hb3⟩; have hx3 := HX1.out.keep hb3; obtain ⟨z0, y0, z1, y1, z2, y2, z3, y3, z4, y4, z5, y5, z6, y6, z7, y7⟩ := cf8 hx3; have l3 := hx3.1; have HX3 := Lib.hid hx3; clear hx3)
  refine bodyPost_ret (ret_cell rfl _ _ ⟨w.heap.size + 1, 0, none⟩ _ rfl (load_par8 _ _ _ _ _ _ _ _ _ _ (box_set8 _ _ _ _ _ _ _ _ HX3.out))) rfl ?_
  exact ⟨_, _, _, rfl, fun W hW => ⟨RS.nil _ _ rfl rfl, RV.nil _⟩, below_set8 _ _ _ _ _ _ _ _ _ (up HB1.out hb3) (by omega)⟩
set_option maxRecDepth 100000 in
set_option maxHeartbeats 8000000 in
theorem goes_5V (p : PS) (b : UInt8) (au aq : Option Addr) (nu cu nq cq : Nat) (w0 w : World) (hr : RS w0 (.slice au nu cu) (.slice aq nq cq) p) (hw : Pre w0 w) (h0 : p.st = 5) (k : 60 ≤ b.toNat) (k2 : b.toNat ≤ 63) :
    Calls Tryz.prog 55 #[.agg (cS p (.slice au nu cu) (.slice aq nq cq)), .int .u8 (b.toNat : Int)] w (Ret2 (spoS p.st, []) w0 w) := by
  have HRS := Lib.hid hr; clear hr
  have HW0 := Lib.hid hw; clear hw
  obtain ⟨st, utf, pr, fi, pp, it, tx, bad⟩ := p
  dsimp only at *
  have hst : st = 5 := by omega
  subst hst
  have d_l47 : decide ((b.toNat : Int) ≤ 47) = false := decide_eq_false (by omega)
  have d_g48 : decide ((48 : Int) ≤ (b.toNat : Int)) = true := decide_eq_true (by omega)
  have d_l59 : decide ((b.toNat : Int) ≤ 59) = false := decide_eq_false (by omega)
  have d_g60 : decide ((60 : Int) ≤ (b.toNat : Int)) = true := decide_eq_true (by omega)
  have d_l63 : decide ((b.toNat : Int) ≤ 63) = true := decide_eq_true (by omega)
  clear k k2 h0
  unfold cS
  dsimp only at *
  have hx1 := Box.new (w.alloc (.cells #[.int .i64 5, .slice au nu cu, .int .u8 (pr.toNat : Int), .int .u8 (fi.toNat : Int), .slice aq nq cq, .string it, .string tx, .bool bad] 25)) #[.int .i64 0, .slice none 0 0, .int .u8 0, .int .u8 0, .slice none 0 0, .string ⟨#[]⟩, .string ⟨#[]⟩, .bool false] 25
  have hb1 : Below w.heap.size w ((w.alloc (.cells #[.int .i64 5, .slice au nu cu, .int .u8 (pr.toNat : Int), .int .u8 (fi.toNat : Int), .slice aq nq cq, .string it, .string tx, .bool bad] 25)).alloc (.cells #[.int .i64 0, .slice none 0 0, .int .u8 0, .int .u8 0, .slice none 0 0, .string ⟨#[]⟩, .string ⟨#[]⟩, .bool false] 25)) := up (below_box _ _) (below_box _ _)
  rw [World.size_alloc] at hx1
  have HX1 := Lib.hid hx1
  have HB1 := Lib.hid hb1
  clear hx1 hb1
  go_enter Tryz.func55, Tryz.ntmps55
  go_wp2_with (go_at_call 72; refine (spoilt_any _ _).mono ?_; rintro e w3 ⟨rfl, hb3⟩; have hx3 := HX1.out.keep hb3; obtain ⟨z0, y0, z1, y1, z2, y2, z3, y3, z4, y4, z5, y5, z6, y6, z7, y7⟩ := cf8 hx3; have l3 := hx3.1; have HX3 := Lib.hid hx3; clear hx3)
  refine bodyPost_ret (ret_cell rfl _ _ ⟨w.heap.size + 1, 0, none⟩ _ rfl (load_par8 _ _ _ _ _ _ _ _ _ _ (box_set8 _ _ _ _ _ _ _ _ HX3.out))) rfl ?_
  exact ⟨_, _, _, rfl, fun W hW => ⟨RS.nil _ _ rfl rfl, RV.nil _⟩, below_set8 _ _ _ _ _ _ _ _ _ (up HB1.out hb3) (by omega)⟩
set_option maxRecDepth 100000 in
set_option maxHeartbeats 8000000 in
theorem goes_10D (p : PS) (b : UInt8) (au aq : Option Addr) (nu cu nq cq : Nat) (w0 w : World) (hr : RS w0 (.slice au nu cu) (.slice aq nq cq) p) (hw : Pre w0 w) (h0 : p.st = 10) (k : 48 ≤ b.toNat) (k2 : b.toNat ≤ 59) :
    Calls Tryz.prog 55 #[.agg (cS p (.slice au nu cu) (.slice aq nq cq)), .int .u8 (b.toNat : Int)] w (Ret2 (spoS p.st, []) w0 w) := by
  have HRS := Lib.hid hr; clear hr
  have HW0 := Lib.hid hw; clear hw
  obtain ⟨st, utf, pr, fi, pp, it, tx, bad⟩ := p
  dsimp only at *
  have hst : st = 10 := by omega
  subst hst
  have d_l47 : decide ((b.toNat : Int) ≤ 47) = false := decide_eq_false (by omega)
  have d_g48 : decide ((48 : Int) ≤ (b.toNat : Int)) = true := decide_eq_true (by omega)
  have d_l59 : decide ((b.toNat : Int) ≤ 59) = true := decide_eq_true (by omega)
  have d_g60 : decide ((60 : Int) ≤ (b.toNat : Int)) = false := decide_eq_false (by omega)
  have d_l63 : decide ((b.toNat : Int) ≤ 63) = true := decide_eq_true (by omega)
  clear k k2 h0
  unfold cS
  dsimp only at *
  have hx1 := Box.new (w.alloc (.cells #[.int .i64 10, .slice au nu cu, .int .u8 (pr.toNat : Int), .int .u8 (fi.toNat : Int), .slice aq nq cq, .string it, .string tx, .bool bad] 25)) #[.int .i64 0, .slice none 0 0, .int .u8 0, .int .u8 0, .slice none 0 0, .string ⟨#[]⟩, .string ⟨#[]⟩, .bool false] 25
  have hb1 : Below w.heap.size w ((w.alloc (.cells #[.int .i64 10, .slice au nu cu, .int .u8 (pr.toNat : Int), .int .u8 (fi.toNat : Int), .slice aq nq cq, .string it, .string tx, .bool bad] 25)).alloc (.cells #[.int .i64 0, .slice none 0 0, .int .u8 0, .int .u8 0, .slice none 0 0, .string ⟨#[]⟩, .string ⟨#[]⟩, .bool false] 25)) := up (below_box _ _) (below_box _ _)
  rw [World.size_alloc] at hx1
  have HX1 := Lib.hid hx1
  have HB1 := Lib.hid hb1
  clear hx1 hb1
  go_enter Tryz.func55, Tryz.ntmps55
  go_wp2_with (go_at_call 72; refine (spoilt_any _ _).mono ?_; rintro e w3 ⟨rfl, hb3⟩; have hx3 := HX1.out.keep hb3; obtain ⟨z0, y0, z1, y1, z2, y2, z3, y3, z4, y4, z5, y5, z6, y6, z7, y7⟩ := cf8 hx3; have l3 := hx3.1; have HX3 := Lib.hid hx3; clear hx3)
  refine bodyPost_ret (ret_cell rfl _ _ ⟨w.heap.size + 1, 0, none⟩ _ rfl (load_par8 _ _ _ _ _ _ _ _ _ _ (box_set8 _ _ _ _ _ _ _ _ HX3.out))) rfl ?_
  exact ⟨_, _, _, rfl, fun W hW => ⟨RS.nil _ _ rfl rfl, RV.nil _⟩, below_set8 _ _ _ _ _ _ _ _ _ (up HB1.out hb3) (by omega)⟩
set_option maxRecDepth 100000 in
set_option maxHeartbeats 8000000 in
theorem goes_10V (p : PS) (b : UInt8) (au aq : Option Addr) (nu cu nq cq : Nat) (w0 w : World) (hr : RS w0 (.slice au nu cu) (.slice aq nq cq) p) (hw : Pre w0 w) (h0 : p.st = 10) (k : 60 ≤ b.toNat) (k2 : b.toNat ≤ 63) :
    Calls Tryz.prog 55 #[.agg (cS p (.slice au nu cu) (.slice aq nq cq)), .int .u8 (b.toNat : Int)] w (Ret2 (spoS p.st, []) w0 w) := by
  have HRS := Lib.hid hr; clear hr
  have HW0 := Lib.hid hw; clear hw
  obtain ⟨st, utf, pr, fi, pp, it, tx, bad⟩ := p
  dsimp only at *
  have hst : st = 10 := by omega
  subst hst
  have d_l47 : decide ((b.toNat : Int) ≤ 47) = false := decide_eq_false (by omega)
  have d_g48 : decide ((48 : Int) ≤ (b.toNat : Int)) = true := decide_eq_true (by omega)
  have d_l59 : decide ((b.toNat : Int) ≤ 59) = false := decide_eq_false (by omega)
  have d_g60 : decide ((60 : Int) ≤ (b.toNat : Int)) = true := decide_eq_true (by omega)
  have d_l63 : decide ((b.toNat : Int) ≤ 63) = true := decide_eq_true (by omega)
  clear k k2 h0
  unfold cS
  dsimp only at *
  have hx1 := Box.new (w.alloc (.cells #[.int .i64 10, .slice au nu cu, .int .u8 (pr.toNat : Int), .int .u8 (fi.toNat : Int), .slice aq nq cq, .string it, .string tx, .bool bad] 25)) #[.int .i64 0, .slice none 0 0, .int .u8 0, .int .u8 0, .slice none 0 0, .string ⟨#[]⟩, .string ⟨#[]⟩, .bool false] 25
  have hb1 : Below w.heap.size w ((w.alloc (.cells #[.int .i64 10, .slice au nu cu, .int .u8 (pr.toNat : Int), .int .u8 (fi.toNat : Int), .slice aq nq cq, .string it, .string tx, .bool bad] 25)).alloc (.cells #[.int .i64 0, .slice none 0 0, .int .u8 0, .int .u8 0, .slice none 0 0, .string ⟨#[]⟩, .string ⟨#[]⟩, .bool false] 25)) := up (below_box _ _) (below_box _ _)
  rw [World.size_alloc] at hx1
  have HX1 := Lib.hid hx1
  have HB1 := Lib.hid hb1
  clear hx1 hb1
  go_enter Tryz.func55, Tryz.ntmps55
  go_wp2_with (go_at_call 72; refine (spoilt_any _ _).mono ?_; rintro e w3 ⟨rfl, hb3⟩; have hx3 := HX1.out.keep hb3; obtain ⟨z0, y0, z1, y1, z2, y2, z3, y3, z4, y4, z5, y5, z6, y6, z7, y7⟩ := cf8 hx3; have l3 := hx3.1; have HX3 := Lib.hid hx3; clear hx3)
  refine bodyPost_ret (ret_cell rfl _ _ ⟨w.heap.size + 1, 0, none⟩ _ rfl (load_par8 _ _ _ _ _ _ _ _ _ _ (box_set8 _ _ _ _ _ _ _ _ HX3.out))) rfl ?_
  exact ⟨_, _, _, rfl, fun W hW => ⟨RS.nil _ _ rfl rfl, RV.nil _⟩, below_set8 _ _ _ _ _ _ _ _ _ (up HB1.out hb3) (by omega)⟩
set_option maxRecDepth 100000 in
set_option maxHeartbeats 8000000 in
theorem goes_4V (p : PS) (b : UInt8) (au aq : Option Addr) (nu cu nq cq : Nat) (w0 w : World) (hr : RS w0 (.slice au nu cu) (.slice aq nq cq) p) (hw : Pre w0 w) (h0 : p.st = 4) (k : 60 ≤ b.toNat) (k2 : b.toNat ≤ 63) :
    Calls Tryz.prog 55 #[.agg (cS p (.slice au nu cu) (.slice aq nq cq)), .int .u8 (b.toNat : Int)] w (Ret2 (spoS p.st, []) w0 w) := by
  have HRS := Lib.hid hr; clear hr
  have HW0 := Lib.hid hw; clear hw
  obtain ⟨st, utf, pr, fi, pp, it, tx, bad⟩ := p
  dsimp only at *
  have hst : st = 4 := by omega
  subst hst
  have d_l47 : decide ((b.toNat : Int) ≤ 47) = false := decide_eq_false (by omega)
  have d_g48 : decide ((48 : Int) ≤ (b.toNat : Int)) = true := decide_eq_true (by omega)
  have d_l59 : decide ((b.toNat : Int) ≤ 59) = false := decide_eq_false (by omega)
  have d_g60 : decide ((60 : Int) ≤ (b.toNat : Int)) = true := decide_eq_true (by omega)
  have d_l63 : decide ((b.toNat : Int) ≤ 63) = true := decide_eq_true (by omega)
  clear k k2 h0
  unfold cS
  dsimp only at *
  have hx1 := Box.new (w.alloc (.cells #[.int .i64 4, .slice au nu cu, .int .u8 (pr.toNat : Int), .int .u8 (fi.toNat : Int), .slice aq nq cq, .string it, .string tx, .bool bad] 25)) #[.int .i64 0, .slice none 0 0, .int .u8 0, .int .u8 0, .slice none 0 0, .string ⟨#[]⟩, .string ⟨#[]⟩, .bool false] 25
  have hb1 : Below w.heap.size w ((w.alloc (.cells #[.int .i64 4, .slice au nu cu, .int .u8 (pr.toNat : Int), .int .u8 (fi.toNat : Int), .slice aq nq cq, .string it, .string tx, .bool bad] 25)).alloc (.cells #[.int .i64 0, .slice none 0 0, .int .u8 0, .int .u8 0, .slice none 0 0, .string ⟨#[]⟩, .string ⟨#[]⟩, .bool false] 25)) := up (below_box _ _) (below_box _ _)
  rw [World.size_alloc] at hx1
  have HX1 := Lib.hid hx1
  have HB1 := Lib.hid hb1
  clear hx1 hb1
  go_enter Tryz.func55, Tryz.ntmps55
  go_wp2_with (go_at_call 72; refine (spoilt_any _ _).mono ?_; rintro e w3 ⟨rfl, hb3⟩; have hx3 := HX1.out.keep hb3; obtain ⟨z0, y0, z1, y1, z2, y2, z3, y3, z4, y4, z5, y5, z6, y6, z7, y7⟩ := cf8 hx3; have l3 := hx3.1; have HX3 := Lib.hid hx3; clear hx3)
  refine bodyPost_ret (ret_cell rfl _ _ ⟨w.heap.size + 1, 0, none⟩ _ rfl (load_par8 _ _ _ _ _ _ _ _ _ _ (box_set8 _ _ _ _ _ _ _ _ HX3.out))) rfl ?_
  exact ⟨_, _, _, rfl, fun W hW => ⟨RS.nil _ _ rfl rfl, RV.nil _⟩, below_set8 _ _ _ _ _ _ _ _ _ (up HB1.out hb3) (by omega)⟩
set_option maxRecDepth 100000 in
set_option maxHeartbeats 8000000 in
theorem goes_9V (p : PS) (b : UInt8) (au aq : Option Addr) (nu cu nq cq : Nat) (w0 w : World) (hr : RS w0 (.slice au nu cu) (.slice aq nq cq) p) (hw : Pre w0 w) (h0 : p.st = 9) (k : 60 ≤ b.toNat) (k2 : b.toNat ≤ 63) :
    Calls Tryz.prog 55 #[.agg (cS p (.slice au nu cu) (.slice aq nq cq)), .int .u8 (b.toNat : Int)] w (Ret2 (spoS p.st, []) w0 w) := by
  have HRS := Lib.hid hr; clear hr
  have HW0 := Lib.hid hw; clear hw
  obtain ⟨st, utf, pr, fi, pp, it, tx, bad⟩ := p
  dsimp only at *
  have hst : st = 9 := by omega
  subst hst
  have d_l47 : decide ((b.toNat : Int) ≤ 47) = false := decide_eq_false (by omega)
  have d_g48 : decide ((48 : Int) ≤ (b.toNat : Int)) = true := decide_eq_true (by omega)
  have d_l59 : decide ((b.toNat : Int) ≤ 59) = false := decide_eq_false (by omega)
  have d_g60 : decide ((60 : Int) ≤ (b.toNat : Int)) = true := decide_eq_true (by omega)
  have d_l63 : decide ((b.toNat : Int) ≤ 63) = true := decide_eq_true (by omega)
  clear k k2 h0
  unfold cS
  dsimp only at *
  have hx1 := Box.new (w.alloc (.cells #[.int .i64 9, .slice au nu cu, .int .u8 (pr.toNat : Int), .int .u8 (fi.toNat : Int), .slice aq nq cq, .string it, .string tx, .bool bad] 25)) #[.int .i64 0, .slice none 0 0, .int .u8 0, .int .u8 0, .slice none 0 0, .string ⟨#[]⟩, .string ⟨#[]⟩, .bool false] 25
  have hb1 : Below w.heap.size w ((w.alloc (.cells #[.int .i64 9, .slice au nu cu, .int .u8 (pr.toNat : Int), .int .u8 (fi.toNat : Int), .slice aq nq cq, .string it, .string tx, .bool bad] 25)).alloc (.cells #[.int .i64 0, .slice none 0 0, .int .u8 0, .int .u8 0, .slice none 0 0, .string ⟨#[]⟩, .string ⟨#[]⟩, .bool false] 25)) := up (below_box _ _) (below_box _ _)
  rw [World.size_alloc] at hx1
  have HX1 := Lib.hid hx1
  have HB1 := Lib.hid hb1
  clear hx1 hb1
  go_enter Tryz.func55, Tryz.ntmps55
  go_wp2_with (go_at_call 72; refine (spoilt_any _ _).mono ?_; rintro e w3 ⟨rfl, hb3⟩; have hx3 := HX1.out.keep hb3; obtain ⟨z0, y0, z1, y1, z2, y2, z3, y3, z4, y4, z5, y5, z6, y6, z7, y7⟩ := cf8 hx3; have l3 := hx3.1; have HX3 := Lib.hid hx3; clear hx3)
  refine bodyPost_ret (ret_cell rfl _ _ ⟨w.heap.size + 1, 0, none⟩ _ rfl (load_par8 _ _ _ _ _ _ _ _ _ _ (box_set8 _ _ _ _ _ _ _ _ HX3.out))) rfl ?_
  exact ⟨_, _, _, rfl, fun W hW => ⟨RS.nil _ _ rfl rfl, RV.nil _⟩, below_set8 _ _ _ _ _ _ _ _ _ (up HB1.out hb3) (by omega)⟩
set_option maxRecDepth 100000 in
set_option maxHeartbeats 8000000 in
theorem goes_8Ft (p : PS) (b : UInt8) (au aq : Option Addr) (nu cu nq cq : Nat) (w0 w : World) (hr : RS w0 (.slice au nu cu) (.slice aq nq cq) p) (hw : Pre w0 w) (h0 : p.st = 8) (k : 64 ≤ b.toNat) (hbad : p.bad = true) :
    Calls Tryz.prog 55 #[.agg (cS p (.slice au nu cu) (.slice aq nq cq)), .int .u8 (b.toNat : Int)] w (Ret2 ({ p with st := 11 }, []) w0 w) := by
  have HRS := Lib.hid hr; clear hr
  have HW0 := Lib.hid hw; clear hw
  obtain ⟨st, utf, pr, fi, pp, it, tx, bad⟩ := p
  dsimp only at *
  have hst : st = 8 := by omega
  subst hst
  have d_l47 : decide ((b.toNat : Int) ≤ 47) = false := decide_eq_false (by omega)
  have d_g48 : decide ((48 : Int) ≤ (b.toNat : Int)) = true := decide_eq_true (by omega)
  have d_l59 : decide ((b.toNat : Int) ≤ 59) = false := decide_eq_false (by omega)
  have d_g60 : decide ((60 : Int) ≤ (b.toNat : Int)) = true := decide_eq_true (by omega)
  have d_l63 : decide ((b.toNat : Int) ≤ 63) = false := decide_eq_false (by omega)
  clear k h0
  subst hbad
  unfold cS
  dsimp only at *
  have hx1 := Box.new (w.alloc (.cells #[.int .i64 8, .slice au nu cu, .int .u8 (pr.toNat : Int), .int .u8 (fi.toNat : Int), .slice aq nq cq, .string it, .string tx, .bool true] 25)) #[.int .i64 0, .slice none 0 0, .int .u8 0, .int .u8 0, .slice none 0 0, .string ⟨#[]⟩, .string ⟨#[]⟩, .bool false] 25
  have hb1 : Below w.heap.size w ((w.alloc (.cells #[.int .i64 8, .slice au nu cu, .int .u8 (pr.toNat : Int), .int .u8 (fi.toNat : Int), .slice aq nq cq, .string it, .string tx, .bool true] 25)).alloc (.cells #[.int .i64 0, .slice none 0 0, .int .u8 0, .int .u8 0, .slice none 0 0, .string ⟨#[]⟩, .string ⟨#[]⟩, .bool false] 25)) := up (below_box _ _) (below_box _ _)
  rw [World.size_alloc] at hx1
  have HX1 := Lib.hid hx1
  have HB1 := Lib.hid hb1
  clear hx1 hb1
  go_enter Tryz.func55, Tryz.ntmps55
  go_wp2
  have hbx := Box.new (w.alloc (.cells #[.int .i64 11, .slice au nu cu, .int .u8 (pr.toNat : Int), .int .u8 (fi.toNat : Int), .slice aq nq cq, .string it, .string tx, .bool true] 25)) #[.int .i64 11, .slice au nu cu, .int .u8 (pr.toNat : Int), .int .u8 (fi.toNat : Int), .slice aq nq cq, .string it, .string tx, .bool true] 25
  rw [World.size_alloc] at hbx
  refine bodyPost_ret (ret_cell rfl _ _ ⟨w.heap.size + 1, 0, none⟩ _ rfl (load_par8 _ _ _ _ _ _ _ _ _ _ hbx)) rfl ?_
  exact ⟨_, _, _, rfl, fun W hW => ⟨HRS.out.keepP hW.1, RV.nil _⟩, up (below_box _ _) (below_box _ _)⟩
set_option maxRecDepth 100000 in
set_option maxHeartbeats 8000000 in
theorem goes_8Ff (p : PS) (b : UInt8) (au aq : Option Addr) (nu cu nq cq : Nat) (w0 w : World) (hr : RS w0 (.slice au nu cu) (.slice aq nq cq) p) (hw : Pre w0 w) (h0 : p.st = 8) (k : 64 ≤ b.toNat) (hbad : p.bad = false) :
    Calls Tryz.prog 55 #[.agg (cS p (.slice au nu cu) (.slice aq nq cq)), .int .u8 (b.toNat : Int)] w (Ret2 ({ p with st := 11, fi := b }, []) w0 w) := by
  have HRS := Lib.hid hr; clear hr
  have HW0 := Lib.hid hw; clear hw
  obtain ⟨st, utf, pr, fi, pp, it, tx, bad⟩ := p
  dsimp only at *
  have hst : st = 8 := by omega
  subst hst
  have d_l47 : decide ((b.toNat : Int) ≤ 47) = false := decide_eq_false (by omega)
  have d_g48 : decide ((48 : Int) ≤ (b.toNat : Int)) = true := decide_eq_true (by omega)
  have d_l59 : decide ((b.toNat : Int) ≤ 59) = false := decide_eq_false (by omega)
  have d_g60 : decide ((60 : Int) ≤ (b.toNat : Int)) = true := decide_eq_true (by omega)
  have d_l63 : decide ((b.toNat : Int) ≤ 63) = false := decide_eq_false (by omega)
  clear k h0
  subst hbad
  unfold cS
  dsimp only at *
  have hx1 := Box.new (w.alloc (.cells #[.int .i64 8, .slice au nu cu, .int .u8 (pr.toNat : Int), .int .u8 (fi.toNat : Int), .slice aq nq cq, .string it, .string tx, .bool false] 25)) #[.int .i64 0, .slice none 0 0, .int .u8 0, .int .u8 0, .slice none 0 0, .string ⟨#[]⟩, .string ⟨#[]⟩, .bool false] 25
  have hb1 : Below w.heap.size w ((w.alloc (.cells #[.int .i64 8, .slice au nu cu, .int .u8 (pr.toNat : Int), .int .u8 (fi.toNat : Int), .slice aq nq cq, .string it, .string tx, .bool false] 25)).alloc (.cells #[.int .i64 0, .slice none 0 0, .int .u8 0, .int .u8 0, .slice none 0 0, .string ⟨#[]⟩, .string ⟨#[]⟩, .bool false] 25)) := up (below_box _ _) (below_box _ _)
  rw [World.size_alloc] at hx1
  have HX1 := Lib.hid hx1
  have HB1 := Lib.hid hb1
  clear hx1 hb1
  go_enter Tryz.func55, Tryz.ntmps55
  go_wp2
  have hbx := Box.new (w.alloc (.cells #[.int .i64 11, .slice au nu cu, .int .u8 (pr.toNat : Int), .int .u8 (b.toNat : Int), .slice aq nq cq, .string it, .string tx, .bool false] 25)) #[.int .i64 11, .slice au nu cu, .int .u8 (pr.toNat : Int), .int .u8 (b.toNat : Int), .slice aq nq cq, .string it, .string tx, .bool false] 25
  rw [World.size_alloc] at hbx
  refine bodyPost_ret (ret_cell rfl _ _ ⟨w.heap.size + 1, 0, none⟩ _ rfl (load_par8 _ _ _ _ _ _ _ _ _ _ hbx)) rfl ?_
  exact ⟨_, _, _, rfl, fun W hW => ⟨HRS.out.keepP hW.1, RV.nil _⟩, up (below_box _ _) (below_box _ _)⟩
set_option maxRecDepth 100000 in
set_option maxHeartbeats 8000000 in
theorem goes_9Ft (p : PS) (b : UInt8) (au aq : Option Addr) (nu cu nq cq : Nat) (w0 w : World) (hr : RS w0 (.slice au nu cu) (.slice aq nq cq) p) (hw : Pre w0 w) (h0 : p.st = 9) (k : 64 ≤ b.toNat) (hbad : p.bad = true) :
    Calls Tryz.prog 55 #[.agg (cS p (.slice au nu cu) (.slice aq nq cq)), .int .u8 (b.toNat : Int)] w (Ret2 ({ p with st := 11 }, []) w0 w) := by
  have HRS := Lib.hid hr; clear hr
  have HW0 := Lib.hid hw; clear hw
  obtain ⟨st, utf, pr, fi, pp, it, tx, bad⟩ := p
  dsimp only at *
  have hst : st = 9 := by omega
  subst hst
  have d_l47 : decide ((b.toNat : Int) ≤ 47) = false := decide_eq_false (by omega)
  have d_g48 : decide ((48 : Int) ≤ (b.toNat : Int)) = true := decide_eq_true (by omega)
  have d_l59 : decide ((b.toNat : Int) ≤ 59) = false := decide_eq_false (by omega)
  have d_g60 : decide ((60 : Int) ≤ (b.toNat : Int)) = true := decide_eq_true (by omega)
  have d_l63 : decide ((b.toNat : Int) ≤ 63) = false := decide_eq_false (by omega)
  clear k h0
  subst hbad
  unfold cS
  dsimp only at *
  have hx1 := Box.new (w.alloc (.cells #[.int .i64 9, .slice au nu cu, .int .u8 (pr.toNat : Int), .int .u8 (fi.toNat : Int), .slice aq nq cq, .string it, .string tx, .bool true] 25)) #[.int .i64 0, .slice none 0 0, .int .u8 0, .int .u8 0, .slice none 0 0, .string ⟨#[]⟩, .string ⟨#[]⟩, .bool false] 25
  have hb1 : Below w.heap.size w ((w.alloc (.cells #[.int .i64 9, .slice au nu cu, .int .u8 (pr.toNat : Int), .int .u8 (fi.toNat : Int), .slice aq nq cq, .string it, .string tx, .bool true] 25)).alloc (.cells #[.int .i64 0, .slice none 0 0, .int .u8 0, .int .u8 0, .slice none 0 0, .string ⟨#[]⟩, .string ⟨#[]⟩, .bool false] 25)) := up (below_box _ _) (below_box _ _)
  rw [World.size_alloc] at hx1
  have HX1 := Lib.hid hx1
  have HB1 := Lib.hid hb1
  clear hx1 hb1
  go_enter Tryz.func55, Tryz.ntmps55
  go_wp2
  have hbx := Box.new (w.alloc (.cells #[.int .i64 11, .slice au nu cu, .int .u8 (pr.toNat : Int), .int .u8 (fi.toNat : Int), .slice aq nq cq, .string it, .string tx, .bool true] 25)) #[.int .i64 11, .slice au nu cu, .int .u8 (pr.toNat : Int), .int .u8 (fi.toNat : Int), .slice aq nq cq, .string it, .string tx, .bool true] 25
  rw [World.size_alloc] at hbx
  refine bodyPost_ret (ret_cell rfl _ _ ⟨w.heap.size + 1, 0, none⟩ _ rfl (load_par8 _ _ _ _ _ _ _ _ _ _ hbx)) rfl ?_
  exact ⟨_, _, _, rfl, fun W hW => ⟨HRS.out.keepP hW.1, RV.nil _⟩, up (below_box _ _) (below_box _ _)⟩
set_option maxRecDepth 100000 in
set_option maxHeartbeats 8000000 in
theorem goes_9Ff (p : PS) (b : UInt8) (au aq : Option Addr) (nu cu nq cq : Nat) (w0 w : World) (hr : RS w0 (.slice au nu cu) (.slice aq nq cq) p) (hw : Pre w0 w) (h0 : p.st = 9) (k : 64 ≤ b.toNat) (hbad : p.bad = false) :
    Calls Tryz.prog 55 #[.agg (cS p (.slice au nu cu) (.slice aq nq cq)), .int .u8 (b.toNat : Int)] w (Ret2 ({ p with st := 11, fi := b }, []) w0 w) := by
  have HRS := Lib.hid hr; clear hr
  have HW0 := Lib.hid hw; clear hw
  obtain ⟨st, utf, pr, fi, pp, it, tx, bad⟩ := p
  dsimp only at *
  have hst : st = 9 := by omega
  subst hst
  have d_l47 : decide ((b.toNat : Int) ≤ 47) = false := decide_eq_false (by omega)
  have d_g48 : decide ((48 : Int) ≤ (b.toNat : Int)) = true := decide_eq_true (by omega)
  have d_l59 : decide ((b.toNat : Int) ≤ 59) = false := decide_eq_false (by omega)
  have d_g60 : decide ((60 : Int) ≤ (b.toNat : Int)) = true := decide_eq_true (by omega)
  have d_l63 : decide ((b.toNat : Int) ≤ 63) = false := decide_eq_false (by omega)
  clear k h0
  subst hbad
  unfold cS
  dsimp only at *
  have hx1 := Box.new (w.alloc (.cells #[.int .i64 9, .slice au nu cu, .int .u8 (pr.toNat : Int), .int .u8 (fi.toNat : Int), .slice aq nq cq, .string it, .string tx, .bool false] 25)) #[.int .i64 0, .slice none 0 0, .int .u8 0, .int .u8 0, .slice none 0 0, .string ⟨#[]⟩, .string ⟨#[]⟩, .bool false] 25
  have hb1 : Below w.heap.size w ((w.alloc (.cells #[.int .i64 9, .slice au nu cu, .int .u8 (pr.toNat : Int), .int .u8 (fi.toNat : Int), .slice aq nq cq, .string it, .string tx, .bool false] 25)).alloc (.cells #[.int .i64 0, .slice none 0 0, .int .u8 0, .int .u8 0, .slice none 0 0, .string ⟨#[]⟩, .string ⟨#[]⟩, .bool false] 25)) := up (below_box _ _) (below_box _ _)
  rw [World.size_alloc] at hx1
  have HX1 := Lib.hid hx1
  have HB1 := Lib.hid hb1
  clear hx1 hb1
  go_enter Tryz.func55, Tryz.ntmps55
  go_wp2
  have hbx := Box.new (w.alloc (.cells #[.int .i64 11, .slice au nu cu, .int .u8 (pr.toNat : Int), .int .u8 (b.toNat : Int), .slice aq nq cq, .string it, .string tx, .bool false] 25)) #[.int .i64 11, .slice au nu cu, .int .u8 (pr.toNat : Int), .int .u8 (b.toNat : Int), .slice aq nq cq, .string it, .string tx, .bool false] 25
  rw [World.size_alloc] at hbx
  refine bodyPost_ret (ret_cell rfl _ _ ⟨w.heap.size + 1, 0, none⟩ _ rfl (load_par8 _ _ _ _ _ _ _ _ _ _ hbx)) rfl ?_
  exact ⟨_, _, _, rfl, fun W hW => ⟨HRS.out.keepP hW.1, RV.nil _⟩, up (below_box _ _) (below_box _ _)⟩
set_option maxRecDepth 100000 in
set_option maxHeartbeats 8000000 in
theorem goes_10Ft (p : PS) (b : UInt8) (au aq : Option Addr) (nu cu nq cq : Nat) (w0 w : World) (hr : RS w0 (.slice au nu cu) (.slice aq nq cq) p) (hw : Pre w0 w) (h0 : p.st = 10) (k : 64 ≤ b.toNat) (hbad : p.bad = true) :
    Calls Tryz.prog 55 #[.agg (cS p (.slice au nu cu) (.slice aq nq cq)), .int .u8 (b.toNat : Int)] w (Ret2 ({ p with st := 11 }, []) w0 w) := by
  have HRS := Lib.hid hr; clear hr
  have HW0 := Lib.hid hw; clear hw
  obtain ⟨st, utf, pr, fi, pp, it, tx, bad⟩ := p
  dsimp only at *
  have hst : st = 10 := by omega
  subst hst
  have d_l47 : decide ((b.toNat : Int) ≤ 47) = false := decide_eq_false (by omega)
  have d_g48 : decide ((48 : Int) ≤ (b.toNat : Int)) = true := decide_eq_true (by omega)
  have d_l59 : decide ((b.toNat : Int) ≤ 59) = false := decide_eq_false (by omega)
  have d_g60 : decide ((60 : Int) ≤ (b.toNat : Int)) = true := decide_eq_true (by omega)
  have d_l63 : decide ((b.toNat : Int) ≤ 63) = false := decide_eq_false (by omega)
  clear k h0
  subst hbad
  unfold cS
  dsimp only at *
  have hx1 := Box.new (w.alloc (.cells #[.int .i64 10, .slice au nu cu, .int .u8 (pr.toNat : Int), .int .u8 (fi.toNat : Int), .slice aq nq cq, .string it, .string tx, .bool true] 25)) #[.int .i64 0, .slice none 0 0, .int .u8 0, .int .u8 0, .slice none 0 0, .string ⟨#[]⟩, .string ⟨#[]⟩, .bool false] 25
  have hb1 : Below w.heap.size w ((w.alloc (.cells #[.int .i64 10, .slice au nu cu, .int .u8 (pr.toNat : Int), .int .u8 (fi.toNat : Int), .slice aq nq cq, .string it, .string tx, .bool true] 25)).alloc (.cells #[.int .i64 0, .slice none 0 0, .int .u8 0, .int .u8 0, .slice none 0 0, .string ⟨#[]⟩, .string ⟨#[]⟩, .bool false] 25)) := up (below_box _ _) (below_box _ _)
  rw [World.size_alloc] at hx1
  have HX1 := Lib.hid hx1
  have HB1 := Lib.hid hb1
  clear hx1 hb1
  go_enter Tryz.func55, Tryz.ntmps55
  go_wp2
  have hbx := Box.new (w.alloc (.cells #[.int .i64 11, .slice au nu cu, .int .u8 (pr.toNat : Int), .int .u8 (fi.toNat : Int), .slice aq nq cq, .string it, .string tx, .bool true] 25)) #[.int .i64 11, .slice au nu cu, .int .u8 (pr.toNat : Int), .int .u8 (fi.toNat : Int), .slice aq nq cq, .string it, .string tx, .bool true] 25
  rw [World.size_alloc] at hbx
  refine bodyPost_ret (ret_cell rfl _ _ ⟨w.heap.size + 1, 0, none⟩ _ rfl (load_par8 _ _ _ _ _ _ _ _ _ _ hbx)) rfl ?_
  exact ⟨_, _, _, rfl, fun W hW => ⟨HRS.out.keepP hW.1, RV.nil _⟩, up (below_box _ _) (below_box _ _)⟩
set_option maxRecDepth 100000 in
set_option maxHeartbeats 8000000 in
theorem goes_10Ff (p : PS) (b : UInt8) (au aq : Option Addr) (nu cu nq cq : Nat) (w0 w : World) (hr : RS w0 (.slice au nu cu) (.slice aq nq cq) p) (hw : Pre w0 w) (h0 : p.st = 10) (k : 64 ≤ b.toNat) (hbad : p.bad = false) :
    Calls Tryz.prog 55 #[.agg (cS p (.slice au nu cu) (.slice aq nq cq)), .int .u8 (b.toNat : Int)] w (Ret2 ({ p with st := 11, fi := b }, []) w0 w) := by
  have HRS := Lib.hid hr; clear hr
  have HW0 := Lib.hid hw; clear hw
  obtain ⟨st, utf, pr, fi, pp, it, tx, bad⟩ := p
  dsimp only at *
  have hst : st = 10 := by omega
  subst hst
  have d_l47 : decide ((b.toNat : Int) ≤ 47) = false := decide_eq_false (by omega)
  have d_g48 : decide ((48 : Int) ≤ (b.toNat : Int)) = true := decide_eq_true (by omega)
  have d_l59 : decide ((b.toNat : Int) ≤ 59) = false := decide_eq_false (by omega)
  have d_g60 : decide ((60 : Int) ≤ (b.toNat : Int)) = true := decide_eq_true (by omega)
  have d_l63 : decide ((b.toNat : Int) ≤ 63) = false := decide_eq_false (by omega)
  clear k h0
  subst hbad
  unfold cS
  dsimp only at *
  have hx1 := Box.new (w.alloc (.cells #[.int .i64 10, .slice au nu cu, .int .u8 (pr.toNat : Int), .int .u8 (fi.toNat : Int), .slice aq nq cq, .string it, .string tx, .bool false] 25)) #[.int .i64 0, .slice none 0 0, .int .u8 0, .int .u8 0, .slice none 0 0, .string ⟨#[]⟩, .string ⟨#[]⟩, .bool false] 25
  have hb1 : Below w.heap.size w ((w.alloc (.cells #[.int .i64 10, .slice au nu cu, .int .u8 (pr.toNat : Int), .int .u8 (fi.toNat : Int), .slice aq nq cq, .string it, .string tx, .bool false] 25)).alloc (.cells #[.int .i64 0, .slice none 0 0, .int .u8 0, .int .u8 0, .slice none 0 0, .string ⟨#[]⟩, .string ⟨#[]⟩, .bool false] 25)) := up (below_box _ _) (below_box _ _)
  rw [World.size_alloc] at hx1
  have HX1 := Lib.hid hx1
  have HB1 := Lib.hid hb1
  clear hx1 hb1
  go_enter Tryz.func55, Tryz.ntmps55
  go_wp2
  have hbx := Box.new (w.alloc (.cells #[.int .i64 11, .slice au nu cu, .int .u8 (pr.toNat : Int), .int .u8 (b.toNat : Int), .slice aq nq cq, .string it, .string tx, .bool false] 25)) #[.int .i64 11, .slice au nu cu, .int .u8 (pr.toNat : Int), .int .u8 (b.toNat : Int), .slice aq nq cq, .string it, .string tx, .bool false] 25
  rw [World.size_alloc] at hbx
  refine bodyPost_ret (ret_cell rfl _ _ ⟨w.heap.size + 1, 0, none⟩ _ rfl (load_par8 _ _ _ _ _ _ _ _ _ _ hbx)) rfl ?_
  exact ⟨_, _, _, rfl, fun W hW => ⟨HRS.out.keepP hW.1, RV.nil _⟩, up (below_box _ _) (below_box _ _)⟩
end Go.Proofs.YtmboekpomjgnnaaGreatDoor.Sta
