/-
  OscN
-/
import Derived.Test.YtoilcigmpeaedaaGreatDoorF11
import Derived.Test.YtoilcigmpeaedaaGreatDoorF22
import Derived.Test.YtoilcigmpeaedaaGreatDoorF26
import Derived.Test.YtoilcigmpeaedaaGreatDoorF30
import Derived.Test.YtoilcigmpeaedaaGreatDoorF31
namespace Go.Proofs.YtoilcigmpeaedaaGreatDoor.Osc
open Go.RowKit Utf Col

/-- the box of the result and the box of the zero action, and the world as far as it has come -/
structure RB (w W : World) : Prop where
  p : B64.Box W w.heap.size z6
  q : B64.Box W (w.heap.size + 1) z6
  b : Below w.heap.size w W
theorem RB.new (w : World) : RB w ((w.alloc (.cells #[.int .i64 0, .int .i64 0, .int .i64 0, .int .i64 0, .int .i64 0, .string ⟨#[]⟩] 25)).alloc (.cells #[.int .i64 0, .int .i64 0, .int .i64 0, .int .i64 0, .int .i64 0, .string ⟨#[]⟩] 25)) :=
  ⟨(bz_new w).alloc _, by
    have := bz_new (w.alloc (.cells #[.int .i64 0, .int .i64 0, .int .i64 0, .int .i64 0, .int .i64 0, .string ⟨#[]⟩] 25))
    rwa [show (w.alloc (.cells #[.int .i64 0, .int .i64 0, .int .i64 0, .int .i64 0, .int .i64 0, .string ⟨#[]⟩] 25)).heap.size = w.heap.size + 1 by simp] at this, B64.up (B64.below_box _ _) (B64.below_box _ _)⟩
theorem RB.keep {w W W' : World} (h : RB w W) (hb : Below W.heap.size W W') : RB w W' := ⟨h.p.keep hb, h.q.keep hb, B64.up h.b hb⟩
set_option maxRecDepth 100000 in
set_option maxHeartbeats 4000000 in
theorem rpar_cut (s : ByteArray) (w : World) (HC : ∀ W, Calls Tryz.prog 37 #[.string s] W fun e w' => e = .returned (.tuple #[.string ⟨#[]⟩, .string ⟨#[]⟩, .bool false]) ∧ Below W.heap.size W w') : Calls Tryz.prog 14 #[.string s] w fun e w' => e = .returned (parV none) ∧ Below w.heap.size w w' := by
  have HB := Lib.hid (RB.new w)
  have HC := Lib.hid HC
  go_enter Tryz.func14, Tryz.ntmps14
  go_wp2_with fail
  refine (HC.out _).mono ?_
  rintro e w1 ⟨rfl, hb1⟩
  have HB := Lib.hid (HB.out.keep hb1)
  clear hb1
  obtain ⟨⟨x0, x1, x2, x3, x4, x5⟩, f0, f1, f2, f3, f4, f5⟩ := boxz HB.out.p
  obtain ⟨⟨y0, y1, y2, y3, y4, y5⟩, -⟩ := boxz HB.out.q
  go_wp2_with fail
  refine bodyPost_ret (ret_cell rfl _ _ ⟨w.heap.size, 0, none⟩ _ rfl (load_act (box_set6 HB.out.p ⟨0, 0, 0, 0, 0, []⟩))) rfl ?_
  exact ⟨rfl, below_set6 HB.out.b (Nat.le_refl _) ⟨0, 0, 0, 0, 0, []⟩⟩
set_option maxRecDepth 100000 in
set_option maxHeartbeats 4000000 in
theorem rpar_long (s : ByteArray) (w : World) (a r : List UInt8) (hs : decide (512 < (s.size : Int)) = true) (HC : ∀ W, Calls Tryz.prog 37 #[.string s] W fun e w' => e = .returned (.tuple #[.string ⟨a.toArray⟩, .string ⟨r.toArray⟩, .bool true]) ∧ Below W.heap.size W w') : Calls Tryz.prog 14 #[.string s] w fun e w' => e = .returned (parV none) ∧ Below w.heap.size w w' := by
  have HB := Lib.hid (RB.new w)
  have HC := Lib.hid HC
  go_enter Tryz.func14, Tryz.ntmps14
  go_wp2_with fail
  refine (HC.out _).mono ?_
  rintro e w1 ⟨rfl, hb1⟩
  have HB := Lib.hid (HB.out.keep hb1)
  clear hb1
  obtain ⟨⟨x0, x1, x2, x3, x4, x5⟩, f0, f1, f2, f3, f4, f5⟩ := boxz HB.out.p
  obtain ⟨⟨y0, y1, y2, y3, y4, y5⟩, -⟩ := boxz HB.out.q
  go_wp2_with fail
  refine bodyPost_ret (ret_cell rfl _ _ ⟨w.heap.size, 0, none⟩ _ rfl (load_act (box_set6 HB.out.p ⟨0, 0, 0, 0, 0, []⟩))) rfl ?_
  exact ⟨rfl, below_set6 HB.out.b (Nat.le_refl _) ⟨0, 0, 0, 0, 0, []⟩⟩
set_option maxRecDepth 100000 in
set_option maxHeartbeats 4000000 in
theorem rpar_0_no (s : ByteArray) (w : World) (a r : List UInt8) (hs : decide (512 < (s.size : Int)) = false) (HC : ∀ W, Calls Tryz.prog 37 #[.string s] W fun e w' => e = .returned (.tuple #[.string ⟨a.toArray⟩, .string ⟨r.toArray⟩, .bool true]) ∧ Below W.heap.size W w') (e0 : (a == [48]) = true) (HT : ∀ W, Calls Tryz.prog 29 #[.string ⟨r.toArray⟩] W fun e w' => e = .returned (.bool false) ∧ Below W.heap.size W w') : Calls Tryz.prog 14 #[.string s] w fun e w' => e = .returned (parV none) ∧ Below w.heap.size w w' := by
  have HB := Lib.hid (RB.new w)
  have HC := Lib.hid HC
  have HT := Lib.hid HT
  go_enter Tryz.func14, Tryz.ntmps14
  go_wp2_with fail
  refine (HC.out _).mono ?_
  rintro e w1 ⟨rfl, hb1⟩
  have HB := Lib.hid (HB.out.keep hb1)
  clear hb1
  go_wp2_with fail
  refine (HT.out _).mono ?_
  rintro e w2 ⟨rfl, hb2⟩
  have HB := Lib.hid (HB.out.keep hb2)
  clear hb2
  obtain ⟨⟨x0, x1, x2, x3, x4, x5⟩, f0, f1, f2, f3, f4, f5⟩ := boxz HB.out.p
  obtain ⟨⟨y0, y1, y2, y3, y4, y5⟩, -⟩ := boxz HB.out.q
  go_wp2_with fail
  refine bodyPost_ret (ret_cell rfl _ _ ⟨w.heap.size, 0, none⟩ _ rfl (load_act (box_set6 HB.out.p ⟨0, 0, 0, 0, 0, []⟩))) rfl ?_
  exact ⟨rfl, below_set6 HB.out.b (Nat.le_refl _) ⟨0, 0, 0, 0, 0, []⟩⟩
set_option maxRecDepth 100000 in
set_option maxHeartbeats 4000000 in
theorem rpar_0_yes (s : ByteArray) (w : World) (a r : List UInt8) (hs : decide (512 < (s.size : Int)) = false) (HC : ∀ W, Calls Tryz.prog 37 #[.string s] W fun e w' => e = .returned (.tuple #[.string ⟨a.toArray⟩, .string ⟨r.toArray⟩, .bool true]) ∧ Below W.heap.size W w') (e0 : (a == [48]) = true) (HT : ∀ W, Calls Tryz.prog 29 #[.string ⟨r.toArray⟩] W fun e w' => e = .returned (.bool true) ∧ Below W.heap.size W w') : Calls Tryz.prog 14 #[.string s] w fun e w' => e = .returned (parV (some ⟨44, 0, 0, 0, 0, r⟩)) ∧ Below w.heap.size w w' := by
  have HB := Lib.hid (RB.new w)
  have HC := Lib.hid HC
  have HT := Lib.hid HT
  go_enter Tryz.func14, Tryz.ntmps14
  go_wp2_with fail
  refine (HC.out _).mono ?_
  rintro e w1 ⟨rfl, hb1⟩
  have HB := Lib.hid (HB.out.keep hb1)
  clear hb1
  go_wp2_with fail
  refine (HT.out _).mono ?_
  rintro e w2 ⟨rfl, hb2⟩
  have HB := Lib.hid (HB.out.keep hb2)
  clear hb2
  obtain ⟨⟨x0, x1, x2, x3, x4, x5⟩, f0, f1, f2, f3, f4, f5⟩ := boxz HB.out.p
  obtain ⟨⟨y0, y1, y2, y3, y4, y5⟩, -⟩ := boxz HB.out.q
  go_wp2_with fail
  refine bodyPost_ret (ret_cell rfl _ _ ⟨w.heap.size, 0, none⟩ _ rfl (load_act (box_set6 HB.out.p ⟨44, 0, 0, 0, 0, r⟩))) rfl ?_
  exact ⟨rfl, below_set6 HB.out.b (Nat.le_refl _) ⟨44, 0, 0, 0, 0, r⟩⟩
set_option maxRecDepth 100000 in
set_option maxHeartbeats 4000000 in
theorem rpar_2_no (s : ByteArray) (w : World) (a r : List UInt8) (hs : decide (512 < (s.size : Int)) = false) (HC : ∀ W, Calls Tryz.prog 37 #[.string s] W fun e w' => e = .returned (.tuple #[.string ⟨a.toArray⟩, .string ⟨r.toArray⟩, .bool true]) ∧ Below W.heap.size W w') (e0 : (a == [48]) = false) (e2 : (a == [50]) = true) (HT : ∀ W, Calls Tryz.prog 29 #[.string ⟨r.toArray⟩] W fun e w' => e = .returned (.bool false) ∧ Below W.heap.size W w') : Calls Tryz.prog 14 #[.string s] w fun e w' => e = .returned (parV none) ∧ Below w.heap.size w w' := by
  have HB := Lib.hid (RB.new w)
  have HC := Lib.hid HC
  have HT := Lib.hid HT
  go_enter Tryz.func14, Tryz.ntmps14
  go_wp2_with fail
  refine (HC.out _).mono ?_
  rintro e w1 ⟨rfl, hb1⟩
  have HB := Lib.hid (HB.out.keep hb1)
  clear hb1
  go_wp2_with fail
  refine (HT.out _).mono ?_
  rintro e w2 ⟨rfl, hb2⟩
  have HB := Lib.hid (HB.out.keep hb2)
  clear hb2
  obtain ⟨⟨x0, x1, x2, x3, x4, x5⟩, f0, f1, f2, f3, f4, f5⟩ := boxz HB.out.p
  obtain ⟨⟨y0, y1, y2, y3, y4, y5⟩, -⟩ := boxz HB.out.q
  go_wp2_with fail
  refine bodyPost_ret (ret_cell rfl _ _ ⟨w.heap.size, 0, none⟩ _ rfl (load_act (box_set6 HB.out.p ⟨0, 0, 0, 0, 0, []⟩))) rfl ?_
  exact ⟨rfl, below_set6 HB.out.b (Nat.le_refl _) ⟨0, 0, 0, 0, 0, []⟩⟩
set_option maxRecDepth 100000 in
set_option maxHeartbeats 4000000 in
theorem rpar_2_yes (s : ByteArray) (w : World) (a r : List UInt8) (hs : decide (512 < (s.size : Int)) = false) (HC : ∀ W, Calls Tryz.prog 37 #[.string s] W fun e w' => e = .returned (.tuple #[.string ⟨a.toArray⟩, .string ⟨r.toArray⟩, .bool true]) ∧ Below W.heap.size W w') (e0 : (a == [48]) = false) (e2 : (a == [50]) = true) (HT : ∀ W, Calls Tryz.prog 29 #[.string ⟨r.toArray⟩] W fun e w' => e = .returned (.bool true) ∧ Below W.heap.size W w') : Calls Tryz.prog 14 #[.string s] w fun e w' => e = .returned (parV (some ⟨44, 0, 0, 0, 0, r⟩)) ∧ Below w.heap.size w w' := by
  have HB := Lib.hid (RB.new w)
  have HC := Lib.hid HC
  have HT := Lib.hid HT
  go_enter Tryz.func14, Tryz.ntmps14
  go_wp2_with fail
  refine (HC.out _).mono ?_
  rintro e w1 ⟨rfl, hb1⟩
  have HB := Lib.hid (HB.out.keep hb1)
  clear hb1
  go_wp2_with fail
  refine (HT.out _).mono ?_
  rintro e w2 ⟨rfl, hb2⟩
  have HB := Lib.hid (HB.out.keep hb2)
  clear hb2
  obtain ⟨⟨x0, x1, x2, x3, x4, x5⟩, f0, f1, f2, f3, f4, f5⟩ := boxz HB.out.p
  obtain ⟨⟨y0, y1, y2, y3, y4, y5⟩, -⟩ := boxz HB.out.q
  go_wp2_with fail
  refine bodyPost_ret (ret_cell rfl _ _ ⟨w.heap.size, 0, none⟩ _ rfl (load_act (box_set6 HB.out.p ⟨44, 0, 0, 0, 0, r⟩))) rfl ?_
  exact ⟨rfl, below_set6 HB.out.b (Nat.le_refl _) ⟨44, 0, 0, 0, 0, r⟩⟩
set_option maxRecDepth 100000 in
set_option maxHeartbeats 4000000 in
theorem rpar_no (s : ByteArray) (w : World) (a r : List UInt8) (hs : decide (512 < (s.size : Int)) = false) (HC : ∀ W, Calls Tryz.prog 37 #[.string s] W fun e w' => e = .returned (.tuple #[.string ⟨a.toArray⟩, .string ⟨r.toArray⟩, .bool true]) ∧ Below W.heap.size W w') (e0 : (a == [48]) = false) (e2 : (a == [50]) = false) (e4 : (a == [52]) = false) (e52 : (a == [53, 50]) = false) : Calls Tryz.prog 14 #[.string s] w fun e w' => e = .returned (parV none) ∧ Below w.heap.size w w' := by
  have HB := Lib.hid (RB.new w)
  have HC := Lib.hid HC
  go_enter Tryz.func14, Tryz.ntmps14
  go_wp2_with fail
  refine (HC.out _).mono ?_
  rintro e w1 ⟨rfl, hb1⟩
  have HB := Lib.hid (HB.out.keep hb1)
  clear hb1
  obtain ⟨⟨x0, x1, x2, x3, x4, x5⟩, f0, f1, f2, f3, f4, f5⟩ := boxz HB.out.p
  obtain ⟨⟨y0, y1, y2, y3, y4, y5⟩, -⟩ := boxz HB.out.q
  go_wp2_with fail
  refine bodyPost_ret (ret_cell rfl _ _ ⟨w.heap.size, 0, none⟩ _ rfl (load_act (box_set6 HB.out.p ⟨0, 0, 0, 0, 0, []⟩))) rfl ?_
  exact ⟨rfl, below_set6 HB.out.b (Nat.le_refl _) ⟨0, 0, 0, 0, 0, []⟩⟩
set_option maxRecDepth 100000 in
set_option maxHeartbeats 4000000 in
theorem rpar_4_cut (s : ByteArray) (w : World) (a r : List UInt8) (hs : decide (512 < (s.size : Int)) = false) (HC : ∀ W, Calls Tryz.prog 37 #[.string s] W fun e w' => e = .returned (.tuple #[.string ⟨a.toArray⟩, .string ⟨r.toArray⟩, .bool true]) ∧ Below W.heap.size W w') (e0 : (a == [48]) = false) (e2 : (a == [50]) = false) (e4 : (a == [52]) = true) (HC2 : ∀ W, Calls Tryz.prog 37 #[.string ⟨r.toArray⟩] W fun e w' => e = .returned (.tuple #[.string ⟨#[]⟩, .string ⟨#[]⟩, .bool false]) ∧ Below W.heap.size W w') (u v z : Int) (HP : ∀ W, Calls Tryz.prog 38 #[.string ⟨#[]⟩] W fun e w' => e = .returned (.tuple #[.agg #[.int .i64 u, .int .i64 v], .int .i64 z]) ∧ Below W.heap.size W w') : Calls Tryz.prog 14 #[.string s] w fun e w' => e = .returned (parV none) ∧ Below w.heap.size w w' := by
  have HB := Lib.hid (RB.new w)
  have HC := Lib.hid HC
  have HC2 := Lib.hid HC2
  have HP := Lib.hid HP
  go_enter Tryz.func14, Tryz.ntmps14
  go_wp2_with fail
  refine (HC.out _).mono ?_
  rintro e w1 ⟨rfl, hb1⟩
  have HB := Lib.hid (HB.out.keep hb1)
  clear hb1
  go_wp2_with fail
  refine (HC2.out _).mono ?_
  rintro e w2 ⟨rfl, hb2⟩
  have HB := Lib.hid (HB.out.keep hb2)
  clear hb2
  go_wp2_with fail
  refine (HP.out _).mono ?_
  rintro e w3 ⟨rfl, hb3⟩
  have HB := Lib.hid (HB.out.keep hb3)
  clear hb3
  have HB := Lib.hid (HB.out.keep (B64.below_box _ (.cells #[.int .i64 u, .int .i64 v] 23)))
  obtain ⟨⟨x0, x1, x2, x3, x4, x5⟩, f0, f1, f2, f3, f4, f5⟩ := boxz HB.out.p
  obtain ⟨⟨y0, y1, y2, y3, y4, y5⟩, -⟩ := boxz HB.out.q
  go_wp2_with fail
  refine bodyPost_ret (ret_cell rfl _ _ ⟨w.heap.size, 0, none⟩ _ rfl (load_act (box_set6 HB.out.p ⟨0, 0, 0, 0, 0, []⟩))) rfl ?_
  exact ⟨rfl, below_set6 HB.out.b (Nat.le_refl _) ⟨0, 0, 0, 0, 0, []⟩⟩
set_option maxRecDepth 100000 in
set_option maxHeartbeats 4000000 in
theorem rpar_4_num (s : ByteArray) (w : World) (a r : List UInt8) (hs : decide (512 < (s.size : Int)) = false) (HC : ∀ W, Calls Tryz.prog 37 #[.string s] W fun e w' => e = .returned (.tuple #[.string ⟨a.toArray⟩, .string ⟨r.toArray⟩, .bool true]) ∧ Below W.heap.size W w') (a2 c : List UInt8) (e0 : (a == [48]) = false) (e2 : (a == [50]) = false) (e4 : (a == [52]) = true) (HC2 : ∀ W, Calls Tryz.prog 37 #[.string ⟨r.toArray⟩] W fun e w' => e = .returned (.tuple #[.string ⟨a2.toArray⟩, .string ⟨c.toArray⟩, .bool true]) ∧ Below W.heap.size W w') (u v z : Int) (HP : ∀ W, Calls Tryz.prog 38 #[.string ⟨c.toArray⟩] W fun e w' => e = .returned (.tuple #[.agg #[.int .i64 u, .int .i64 v], .int .i64 z]) ∧ Below W.heap.size W w') (nu : Int) (HN : ∀ W, Calls Tryz.prog 39 #[.string ⟨a2.toArray⟩] W fun e w' => e = .returned (.int .i64 nu) ∧ w' = W) (hn : decide (0 ≤ nu) = false) : Calls Tryz.prog 14 #[.string s] w fun e w' => e = .returned (parV none) ∧ Below w.heap.size w w' := by
  have HB := Lib.hid (RB.new w)
  have HC := Lib.hid HC
  have HC2 := Lib.hid HC2
  have HP := Lib.hid HP
  have HN := Lib.hid HN
  go_enter Tryz.func14, Tryz.ntmps14
  go_wp2_with fail
  refine (HC.out _).mono ?_
  rintro e w1 ⟨rfl, hb1⟩
  have HB := Lib.hid (HB.out.keep hb1)
  clear hb1
  go_wp2_with fail
  refine (HC2.out _).mono ?_
  rintro e w2 ⟨rfl, hb2⟩
  have HB := Lib.hid (HB.out.keep hb2)
  clear hb2
  go_wp2_with fail
  refine (HP.out _).mono ?_
  rintro e w3 ⟨rfl, hb3⟩
  have HB := Lib.hid (HB.out.keep hb3)
  clear hb3
  have HB := Lib.hid (HB.out.keep (B64.below_box _ (.cells #[.int .i64 u, .int .i64 v] 23)))
  obtain ⟨⟨x0, x1, x2, x3, x4, x5⟩, f0, f1, f2, f3, f4, f5⟩ := boxz HB.out.p
  obtain ⟨⟨y0, y1, y2, y3, y4, y5⟩, -⟩ := boxz HB.out.q
  go_wp2_with (go_at_call 39; refine (HN.out _).mono ?_; rintro e w4 ⟨rfl, rfl⟩)
  refine bodyPost_ret (ret_cell rfl _ _ ⟨w.heap.size, 0, none⟩ _ rfl (load_act (box_set6 HB.out.p ⟨0, 0, 0, 0, 0, []⟩))) rfl ?_
  exact ⟨rfl, below_set6 HB.out.b (Nat.le_refl _) ⟨0, 0, 0, 0, 0, []⟩⟩
set_option maxRecDepth 100000 in
set_option maxHeartbeats 4000000 in
theorem rpar_4_col (s : ByteArray) (w : World) (a r : List UInt8) (hs : decide (512 < (s.size : Int)) = false) (HC : ∀ W, Calls Tryz.prog 37 #[.string s] W fun e w' => e = .returned (.tuple #[.string ⟨a.toArray⟩, .string ⟨r.toArray⟩, .bool true]) ∧ Below W.heap.size W w') (a2 c : List UInt8) (e0 : (a == [48]) = false) (e2 : (a == [50]) = false) (e4 : (a == [52]) = true) (HC2 : ∀ W, Calls Tryz.prog 37 #[.string ⟨r.toArray⟩] W fun e w' => e = .returned (.tuple #[.string ⟨a2.toArray⟩, .string ⟨c.toArray⟩, .bool true]) ∧ Below W.heap.size W w') (u v z : Int) (HP : ∀ W, Calls Tryz.prog 38 #[.string ⟨c.toArray⟩] W fun e w' => e = .returned (.tuple #[.agg #[.int .i64 u, .int .i64 v], .int .i64 z]) ∧ Below W.heap.size W w') (nu : Int) (HN : ∀ W, Calls Tryz.prog 39 #[.string ⟨a2.toArray⟩] W fun e w' => e = .returned (.int .i64 nu) ∧ w' = W) (hn : decide (0 ≤ nu) = true) (hz : (z == 0) = false) : Calls Tryz.prog 14 #[.string s] w fun e w' => e = .returned (parV none) ∧ Below w.heap.size w w' := by
  have HB := Lib.hid (RB.new w)
  have HC := Lib.hid HC
  have HC2 := Lib.hid HC2
  have HP := Lib.hid HP
  have HN := Lib.hid HN
  go_enter Tryz.func14, Tryz.ntmps14
  go_wp2_with fail
  refine (HC.out _).mono ?_
  rintro e w1 ⟨rfl, hb1⟩
  have HB := Lib.hid (HB.out.keep hb1)
  clear hb1
  go_wp2_with fail
  refine (HC2.out _).mono ?_
  rintro e w2 ⟨rfl, hb2⟩
  have HB := Lib.hid (HB.out.keep hb2)
  clear hb2
  go_wp2_with fail
  refine (HP.out _).mono ?_
  rintro e w3 ⟨rfl, hb3⟩
  have HB := Lib.hid (HB.out.keep hb3)
  clear hb3
  have HB := Lib.hid (HB.out.keep (B64.below_box _ (.cells #[.int .i64 u, .int .i64 v] 23)))
  obtain ⟨⟨x0, x1, x2, x3, x4, x5⟩, f0, f1, f2, f3, f4, f5⟩ := boxz HB.out.p
  obtain ⟨⟨y0, y1, y2, y3, y4, y5⟩, -⟩ := boxz HB.out.q
  go_wp2_with (go_at_call 39; refine (HN.out _).mono ?_; rintro e w4 ⟨rfl, rfl⟩)
  refine bodyPost_ret (ret_cell rfl _ _ ⟨w.heap.size, 0, none⟩ _ rfl (load_act (box_set6 HB.out.p ⟨0, 0, 0, 0, 0, []⟩))) rfl ?_
  exact ⟨rfl, below_set6 HB.out.b (Nat.le_refl _) ⟨0, 0, 0, 0, 0, []⟩⟩
set_option maxRecDepth 100000 in
set_option maxHeartbeats 4000000 in
theorem rpar_4_yes (s : ByteArray) (w : World) (a r : List UInt8) (hs : decide (512 < (s.size : Int)) = false) (HC : ∀ W, Calls Tryz.prog 37 #[.string s] W fun e w' => e = .returned (.tuple #[.string ⟨a.toArray⟩, .string ⟨r.toArray⟩, .bool true]) ∧ Below W.heap.size W w') (a2 c : List UInt8) (x n : Nat) (e0 : (a == [48]) = false) (e2 : (a == [50]) = false) (e4 : (a == [52]) = true) (HC2 : ∀ W, Calls Tryz.prog 37 #[.string ⟨r.toArray⟩] W fun e w' => e = .returned (.tuple #[.string ⟨a2.toArray⟩, .string ⟨c.toArray⟩, .bool true]) ∧ Below W.heap.size W w') (HP : ∀ W, Calls Tryz.prog 38 #[.string ⟨c.toArray⟩] W fun e w' => e = .returned (.tuple #[.agg #[.int .i64 2, .int .i64 (x : Int)], .int .i64 0]) ∧ Below W.heap.size W w') (HN : ∀ W, Calls Tryz.prog 39 #[.string ⟨a2.toArray⟩] W fun e w' => e = .returned (.int .i64 (n : Int)) ∧ w' = W) : Calls Tryz.prog 14 #[.string s] w fun e w' => e = .returned (parV (some ⟨45, n, 0, 2, x, []⟩)) ∧ Below w.heap.size w w' := by
  have HB := Lib.hid (RB.new w)
  have HC := Lib.hid HC
  have HC2 := Lib.hid HC2
  have HP := Lib.hid HP
  have HN := Lib.hid HN
  go_enter Tryz.func14, Tryz.ntmps14
  go_wp2_with fail
  refine (HC.out _).mono ?_
  rintro e w1 ⟨rfl, hb1⟩
  have HB := Lib.hid (HB.out.keep hb1)
  clear hb1
  go_wp2_with fail
  refine (HC2.out _).mono ?_
  rintro e w2 ⟨rfl, hb2⟩
  have HB := Lib.hid (HB.out.keep hb2)
  clear hb2
  go_wp2_with fail
  refine (HP.out _).mono ?_
  rintro e w3 ⟨rfl, hb3⟩
  have HB := Lib.hid (HB.out.keep hb3)
  clear hb3
  have hn0 : decide ((0 : Int) ≤ (n : Int)) = true := decide_eq_true (by omega)
  go_wp2_with (go_at_call 39; refine (HN.out _).mono ?_; rintro e w4 ⟨rfl, rfl⟩)
  have kb : ¬ w.heap.size = w3.heap.size := Nat.ne_of_lt HB.out.p.1
  have HK := Lib.hid (col_new w3 x)
  have HB := Lib.hid (HB.out.keep (B64.below_box _ (.cells #[.int .i64 2, .int .i64 (x : Int)] 23)))
  generalize (w3.alloc (.cells #[.int .i64 2, .int .i64 (x : Int)] 23)) = w5 at HB HK ⊢
  generalize w3.heap.size = B2 at HK kb ⊢
  obtain ⟨⟨x0, x1, x2, x3, x4, x5⟩, f0, f1, f2, f3, f4, f5⟩ := boxz HB.out.p
  refine wp_region_held (S := (fun W => W.cell? ⟨B2, 0, none⟩ = some (.int .i64 2) ∧ W.cell? ⟨B2, 1, none⟩ = some (.int .i64 (x : Int)))) (by kernel_rfl) ?_
  refine wpAnyH_take (i := 0) (v := .string ⟨a2.toArray⟩) rfl (by kernel_rfl) (by kernel_rfl) (by kernel_rfl) (fun _ _ _ h => h) (.inl ⟨rfl, fun W hW => by go_simp⟩) HK.out ?_
  refine wpAnyH_take (i := 2) (v := .agg #[.int .i64 2, .int .i64 (x : Int)]) rfl (by kernel_rfl) (by kernel_rfl) (by kernel_rfl) (fun _ _ _ h => h) (.inl ⟨rfl, fun W hW => by obtain ⟨h1, h2⟩ := hW; go_simp⟩) HK.out ?_
  refine wpAnyH_ready (rs := [1]) (by kernel_rfl) (by simp) ?_
  refine AllReadyH.cons (o := _) rfl (fun K hK => ?_) AllReadyH.nil
  go_simp
  go_at_call 39
  refine (HN.out _).mono ?_
  rintro e w6 ⟨rfl, rfl⟩
  show K _ _
  refine hK.out _ _ HK.out (fun hHeld => ?_)
  clear hK K
  refine wpAnyH_take (i := 3) (v := .agg #[.int .i64 45, .int .i64 (n : Int), .int .i64 0, .int .i64 2, .int .i64 (x : Int), .string ⟨#[]⟩]) rfl (by kernel_rfl) (by kernel_rfl) (by kernel_rfl) (fun _ _ _ h => h) (.inl ⟨rfl, fun W hW => by go_simp⟩) HK.out ?_
  refine wpAnyH_ready (rs := [4]) (by kernel_rfl) (by simp) ?_
  refine AllReadyH.cons (o := _) rfl (fun K hK => ?_) AllReadyH.nil
  go_simp
  refine hK.out _ _ (set6_cells kb ⟨45, n, 0, 2, x, []⟩ HK.out) (fun hHeld2 => ?_)
  clear hK K
  refine wpAnyH_take (i := 5) (v := .bool true) rfl (by kernel_rfl) (by kernel_rfl) (by kernel_rfl) (fun _ _ _ h => h) (.inl ⟨rfl, fun W hW => by go_simp⟩) hHeld2 ?_
  refine wpAnyH_done (by kernel_rfl) ?_ _
  go_wp2
  refine bodyPost_ret (ret_cell rfl _ _ ⟨w.heap.size, 0, none⟩ _ rfl (load_act (box_set6 HB.out.p ⟨45, n, 0, 2, x, []⟩).drew)) rfl ?_
  exact ⟨rfl, (below_set6 HB.out.b (Nat.le_refl _) ⟨45, n, 0, 2, x, []⟩).drew⟩
set_option maxRecDepth 100000 in
set_option maxHeartbeats 4000000 in
theorem rpar_52_cut (s : ByteArray) (w : World) (a r : List UInt8) (hs : decide (512 < (s.size : Int)) = false) (HC : ∀ W, Calls Tryz.prog 37 #[.string s] W fun e w' => e = .returned (.tuple #[.string ⟨a.toArray⟩, .string ⟨r.toArray⟩, .bool true]) ∧ Below W.heap.size W w') (e0 : (a == [48]) = false) (e2 : (a == [50]) = false) (e4 : (a == [52]) = false) (e52 : (a == [53, 50]) = true) (HC2 : ∀ W, Calls Tryz.prog 37 #[.string ⟨r.toArray⟩] W fun e w' => e = .returned (.tuple #[.string ⟨#[]⟩, .string ⟨#[]⟩, .bool false]) ∧ Below W.heap.size W w') (X : ByteArray) (z : Int) (HD : ∀ W, Calls Tryz.prog 40 #[.string ⟨#[]⟩] W fun e w' => e = .returned (.tuple #[.string X, .int .i64 z]) ∧ Below W.heap.size W w') : Calls Tryz.prog 14 #[.string s] w fun e w' => e = .returned (parV none) ∧ Below w.heap.size w w' := by
  have HB := Lib.hid (RB.new w)
  have HC := Lib.hid HC
  have HC2 := Lib.hid HC2
  have HD := Lib.hid HD
  go_enter Tryz.func14, Tryz.ntmps14
  go_wp2_with fail
  refine (HC.out _).mono ?_
  rintro e w1 ⟨rfl, hb1⟩
  have HB := Lib.hid (HB.out.keep hb1)
  clear hb1
  go_wp2_with fail
  refine (HC2.out _).mono ?_
  rintro e w2 ⟨rfl, hb2⟩
  have HB := Lib.hid (HB.out.keep hb2)
  clear hb2
  go_wp2_with fail
  refine (HD.out _).mono ?_
  rintro e w3 ⟨rfl, hb3⟩
  have HB := Lib.hid (HB.out.keep hb3)
  clear hb3
  obtain ⟨⟨x0, x1, x2, x3, x4, x5⟩, f0, f1, f2, f3, f4, f5⟩ := boxz HB.out.p
  obtain ⟨⟨y0, y1, y2, y3, y4, y5⟩, -⟩ := boxz HB.out.q
  go_wp2_with fail
  refine bodyPost_ret (ret_cell rfl _ _ ⟨w.heap.size, 0, none⟩ _ rfl (load_act (box_set6 HB.out.p ⟨0, 0, 0, 0, 0, []⟩))) rfl ?_
  exact ⟨rfl, below_set6 HB.out.b (Nat.le_refl _) ⟨0, 0, 0, 0, 0, []⟩⟩
set_option maxRecDepth 100000 in
set_option maxHeartbeats 4000000 in
theorem rpar_52_sel (s : ByteArray) (w : World) (a r : List UInt8) (hs : decide (512 < (s.size : Int)) = false) (HC : ∀ W, Calls Tryz.prog 37 #[.string s] W fun e w' => e = .returned (.tuple #[.string ⟨a.toArray⟩, .string ⟨r.toArray⟩, .bool true]) ∧ Below W.heap.size W w') (a2 c : List UInt8) (e0 : (a == [48]) = false) (e2 : (a == [50]) = false) (e4 : (a == [52]) = false) (e52 : (a == [53, 50]) = true) (HC2 : ∀ W, Calls Tryz.prog 37 #[.string ⟨r.toArray⟩] W fun e w' => e = .returned (.tuple #[.string ⟨a2.toArray⟩, .string ⟨c.toArray⟩, .bool true]) ∧ Below W.heap.size W w') (e99 : (a2 == [99]) = false) (X : ByteArray) (z : Int) (HD : ∀ W, Calls Tryz.prog 40 #[.string ⟨c.toArray⟩] W fun e w' => e = .returned (.tuple #[.string X, .int .i64 z]) ∧ Below W.heap.size W w') : Calls Tryz.prog 14 #[.string s] w fun e w' => e = .returned (parV none) ∧ Below w.heap.size w w' := by
  have HB := Lib.hid (RB.new w)
  have HC := Lib.hid HC
  have HC2 := Lib.hid HC2
  have HD := Lib.hid HD
  go_enter Tryz.func14, Tryz.ntmps14
  go_wp2_with fail
  refine (HC.out _).mono ?_
  rintro e w1 ⟨rfl, hb1⟩
  have HB := Lib.hid (HB.out.keep hb1)
  clear hb1
  go_wp2_with fail
  refine (HC2.out _).mono ?_
  rintro e w2 ⟨rfl, hb2⟩
  have HB := Lib.hid (HB.out.keep hb2)
  clear hb2
  go_wp2_with fail
  refine (HD.out _).mono ?_
  rintro e w3 ⟨rfl, hb3⟩
  have HB := Lib.hid (HB.out.keep hb3)
  clear hb3
  obtain ⟨⟨x0, x1, x2, x3, x4, x5⟩, f0, f1, f2, f3, f4, f5⟩ := boxz HB.out.p
  obtain ⟨⟨y0, y1, y2, y3, y4, y5⟩, -⟩ := boxz HB.out.q
  go_wp2_with fail
  refine bodyPost_ret (ret_cell rfl _ _ ⟨w.heap.size, 0, none⟩ _ rfl (load_act (box_set6 HB.out.p ⟨0, 0, 0, 0, 0, []⟩))) rfl ?_
  exact ⟨rfl, below_set6 HB.out.b (Nat.le_refl _) ⟨0, 0, 0, 0, 0, []⟩⟩
set_option maxRecDepth 100000 in
set_option maxHeartbeats 4000000 in
theorem rpar_52_dec (s : ByteArray) (w : World) (a r : List UInt8) (hs : decide (512 < (s.size : Int)) = false) (HC : ∀ W, Calls Tryz.prog 37 #[.string s] W fun e w' => e = .returned (.tuple #[.string ⟨a.toArray⟩, .string ⟨r.toArray⟩, .bool true]) ∧ Below W.heap.size W w') (a2 c : List UInt8) (e0 : (a == [48]) = false) (e2 : (a == [50]) = false) (e4 : (a == [52]) = false) (e52 : (a == [53, 50]) = true) (HC2 : ∀ W, Calls Tryz.prog 37 #[.string ⟨r.toArray⟩] W fun e w' => e = .returned (.tuple #[.string ⟨a2.toArray⟩, .string ⟨c.toArray⟩, .bool true]) ∧ Below W.heap.size W w') (e99 : (a2 == [99]) = true) (X : ByteArray) (z : Int) (HD : ∀ W, Calls Tryz.prog 40 #[.string ⟨c.toArray⟩] W fun e w' => e = .returned (.tuple #[.string X, .int .i64 z]) ∧ Below W.heap.size W w') (hz : (z == 0) = false) : Calls Tryz.prog 14 #[.string s] w fun e w' => e = .returned (parV none) ∧ Below w.heap.size w w' := by
  have HB := Lib.hid (RB.new w)
  have HC := Lib.hid HC
  have HC2 := Lib.hid HC2
  have HD := Lib.hid HD
  go_enter Tryz.func14, Tryz.ntmps14
  go_wp2_with fail
  refine (HC.out _).mono ?_
  rintro e w1 ⟨rfl, hb1⟩
  have HB := Lib.hid (HB.out.keep hb1)
  clear hb1
  go_wp2_with fail
  refine (HC2.out _).mono ?_
  rintro e w2 ⟨rfl, hb2⟩
  have HB := Lib.hid (HB.out.keep hb2)
  clear hb2
  go_wp2_with fail
  refine (HD.out _).mono ?_
  rintro e w3 ⟨rfl, hb3⟩
  have HB := Lib.hid (HB.out.keep hb3)
  clear hb3
  obtain ⟨⟨x0, x1, x2, x3, x4, x5⟩, f0, f1, f2, f3, f4, f5⟩ := boxz HB.out.p
  obtain ⟨⟨y0, y1, y2, y3, y4, y5⟩, -⟩ := boxz HB.out.q
  go_wp2_with fail
  refine bodyPost_ret (ret_cell rfl _ _ ⟨w.heap.size, 0, none⟩ _ rfl (load_act (box_set6 HB.out.p ⟨0, 0, 0, 0, 0, []⟩))) rfl ?_
  exact ⟨rfl, below_set6 HB.out.b (Nat.le_refl _) ⟨0, 0, 0, 0, 0, []⟩⟩
set_option maxRecDepth 100000 in
set_option maxHeartbeats 4000000 in
theorem rpar_52_len (s : ByteArray) (w : World) (a r : List UInt8) (hs : decide (512 < (s.size : Int)) = false) (HC : ∀ W, Calls Tryz.prog 37 #[.string s] W fun e w' => e = .returned (.tuple #[.string ⟨a.toArray⟩, .string ⟨r.toArray⟩, .bool true]) ∧ Below W.heap.size W w') (a2 c : List UInt8) (e0 : (a == [48]) = false) (e2 : (a == [50]) = false) (e4 : (a == [52]) = false) (e52 : (a == [53, 50]) = true) (HC2 : ∀ W, Calls Tryz.prog 37 #[.string ⟨r.toArray⟩] W fun e w' => e = .returned (.tuple #[.string ⟨a2.toArray⟩, .string ⟨c.toArray⟩, .bool true]) ∧ Below W.heap.size W w') (e99 : (a2 == [99]) = true) (X : ByteArray) (HD : ∀ W, Calls Tryz.prog 40 #[.string ⟨c.toArray⟩] W fun e w' => e = .returned (.tuple #[.string X, .int .i64 0]) ∧ Below W.heap.size W w') (hl : decide ((X.size : Int) ≤ 378) = false) : Calls Tryz.prog 14 #[.string s] w fun e w' => e = .returned (parV none) ∧ Below w.heap.size w w' := by
  have HB := Lib.hid (RB.new w)
  have HC := Lib.hid HC
  have HC2 := Lib.hid HC2
  have HD := Lib.hid HD
  go_enter Tryz.func14, Tryz.ntmps14
  go_wp2_with fail
  refine (HC.out _).mono ?_
  rintro e w1 ⟨rfl, hb1⟩
  have HB := Lib.hid (HB.out.keep hb1)
  clear hb1
  go_wp2_with fail
  refine (HC2.out _).mono ?_
  rintro e w2 ⟨rfl, hb2⟩
  have HB := Lib.hid (HB.out.keep hb2)
  clear hb2
  go_wp2_with fail
  refine (HD.out _).mono ?_
  rintro e w3 ⟨rfl, hb3⟩
  have HB := Lib.hid (HB.out.keep hb3)
  clear hb3
  obtain ⟨⟨x0, x1, x2, x3, x4, x5⟩, f0, f1, f2, f3, f4, f5⟩ := boxz HB.out.p
  obtain ⟨⟨y0, y1, y2, y3, y4, y5⟩, -⟩ := boxz HB.out.q
  go_wp2_with fail
  refine bodyPost_ret (ret_cell rfl _ _ ⟨w.heap.size, 0, none⟩ _ rfl (load_act (box_set6 HB.out.p ⟨0, 0, 0, 0, 0, []⟩))) rfl ?_
  exact ⟨rfl, below_set6 HB.out.b (Nat.le_refl _) ⟨0, 0, 0, 0, 0, []⟩⟩
set_option maxRecDepth 100000 in
set_option maxHeartbeats 4000000 in
theorem rpar_52_yes (s : ByteArray) (w : World) (a r : List UInt8) (hs : decide (512 < (s.size : Int)) = false) (HC : ∀ W, Calls Tryz.prog 37 #[.string s] W fun e w' => e = .returned (.tuple #[.string ⟨a.toArray⟩, .string ⟨r.toArray⟩, .bool true]) ∧ Below W.heap.size W w') (a2 c x : List UInt8) (e0 : (a == [48]) = false) (e2 : (a == [50]) = false) (e4 : (a == [52]) = false) (e52 : (a == [53, 50]) = true) (HC2 : ∀ W, Calls Tryz.prog 37 #[.string ⟨r.toArray⟩] W fun e w' => e = .returned (.tuple #[.string ⟨a2.toArray⟩, .string ⟨c.toArray⟩, .bool true]) ∧ Below W.heap.size W w') (e99 : (a2 == [99]) = true) (HD : ∀ W, Calls Tryz.prog 40 #[.string ⟨c.toArray⟩] W fun e w' => e = .returned (.tuple #[.string ⟨x.toArray⟩, .int .i64 0]) ∧ Below W.heap.size W w') (hl : decide ((x.length : Int) ≤ 378) = true) : Calls Tryz.prog 14 #[.string s] w fun e w' => e = .returned (parV (some ⟨46, 0, 0, 0, 0, x⟩)) ∧ Below w.heap.size w w' := by
  have HB := Lib.hid (RB.new w)
  have HC := Lib.hid HC
  have HC2 := Lib.hid HC2
  have HD := Lib.hid HD
  go_enter Tryz.func14, Tryz.ntmps14
  go_wp2_with fail
  refine (HC.out _).mono ?_
  rintro e w1 ⟨rfl, hb1⟩
  have HB := Lib.hid (HB.out.keep hb1)
  clear hb1
  go_wp2_with fail
  refine (HC2.out _).mono ?_
  rintro e w2 ⟨rfl, hb2⟩
  have HB := Lib.hid (HB.out.keep hb2)
  clear hb2
  go_wp2_with fail
  refine (HD.out _).mono ?_
  rintro e w3 ⟨rfl, hb3⟩
  have HB := Lib.hid (HB.out.keep hb3)
  clear hb3
  obtain ⟨⟨x0, x1, x2, x3, x4, x5⟩, f0, f1, f2, f3, f4, f5⟩ := boxz HB.out.p
  obtain ⟨⟨y0, y1, y2, y3, y4, y5⟩, -⟩ := boxz HB.out.q
  go_wp2_with fail
  refine bodyPost_ret (ret_cell rfl _ _ ⟨w.heap.size, 0, none⟩ _ rfl (load_act (box_set6 HB.out.p ⟨46, 0, 0, 0, 0, x⟩))) rfl ?_
  exact ⟨rfl, below_set6 HB.out.b (Nat.le_refl _) ⟨46, 0, 0, 0, 0, x⟩⟩
theorem rcutV_some (l a b : List UInt8) (h : cutL l = some (a, b)) : rcutV l = .tuple #[.string ⟨a.toArray⟩, .string ⟨b.toArray⟩, .bool true] := by rw [rcutV, h]
theorem rcutV_no (l : List UInt8) (h : cutL l = none) : rcutV l = .tuple #[.string ⟨#[]⟩, .string ⟨#[]⟩, .bool false] := by rw [rcutV, h]
theorem beq_no {a b : List UInt8} (h : ¬ a = b) : (a == b) = false := by simp [h]
theorem prs_form (l : List UInt8) : ∃ u v z : Int, prsV l = .tuple #[.agg #[.int .i64 u, .int .i64 v], .int .i64 z] ∧ (parseL l = none → (z == 0) = false) := by
  cases h : parseL l with
  | none => exact ⟨0, 0, 6, (prsV_none l h).symm, fun _ => rfl⟩
  | some n => exact ⟨2, n, 0, (prsV_some l n h).symm, fun h => by cases h⟩
theorem dec_form (l : List UInt8) : ∃ (X : ByteArray) (z : Int), B64.decV' l = .tuple #[.string X, .int .i64 z] ∧ (B64.decL l = none → (z == 0) = false) := by
  cases h : B64.decL l with
  | none => exact ⟨⟨#[]⟩, 6, B64.decV_none l h, fun _ => rfl⟩
  | some x => exact ⟨⟨x.toArray⟩, 0, B64.decV_some l x h, fun h => by cases h⟩
theorem rparse_any (s : ByteArray) (w : World) (hb : s.size ≤ 8000) : Calls Tryz.prog 14 #[.string s] w fun e w' => e = .returned (parV (parO s.data.toList)) ∧ Below w.heap.size w w' := by
  have hlen : s.data.toList.length = s.size := by simp
  have HC := fun W => rcut_any s W (by omega)
  unfold parO
  cases hc : cutL s.data.toList with
  | none =>
    rw [rcutV_no _ hc] at HC
    have : (if 512 < s.data.toList.length then none else Option.bind (none : Option (List UInt8 × List UInt8)) fun p => if p.1 = [48] ∨ p.1 = [50] then parT p.2 else if p.1 = [52] then parP p.2 else if p.1 = [53, 50] then parC p.2 else none) = (none : Option A6) := by split <;> rfl
    rw [this]
    exact rpar_cut s w HC
  | some p =>
    obtain ⟨a, r⟩ := p
    obtain ⟨ha, hr⟩ := cut_len _ a r hc
    rw [rcutV_some _ a r hc] at HC
    by_cases h5 : 512 < s.data.toList.length
    · rw [if_pos h5]
      exact rpar_long s w a r (decide_eq_true (by omega)) HC
    · rw [if_neg h5, Option.bind_some]
      dsimp only
      have hs : decide (512 < (s.size : Int)) = false := decide_eq_false (by omega)
      have HT := fun W => rtitle_any ⟨r.toArray⟩ W (by rw [Lib.size_mk]; omega)
      have HC2 := fun W => rcut_any ⟨r.toArray⟩ W (by rw [Lib.size_mk]; omega)
      dsimp only at HT HC2
      by_cases h0 : a = [48]
      · rw [if_pos (.inl h0)]
        unfold parT
        cases ht : titB r with
        | true => rw [ht] at HT; rw [if_pos rfl]; exact rpar_0_yes s w a r hs HC (by simp [h0]) HT
        | false => rw [ht] at HT; rw [if_neg (by decide)]; exact rpar_0_no s w a r hs HC (by simp [h0]) HT
      · by_cases h2 : a = [50]
        · rw [if_pos (.inr h2)]
          unfold parT
          cases ht : titB r with
          | true => rw [ht] at HT; rw [if_pos rfl]; exact rpar_2_yes s w a r hs HC (beq_no h0) (by simp [h2]) HT
          | false => rw [ht] at HT; rw [if_neg (by decide)]; exact rpar_2_no s w a r hs HC (beq_no h0) (by simp [h2]) HT
        · rw [if_neg (by rintro (h | h) <;> contradiction)]
          by_cases h4 : a = [52]
          · rw [if_pos h4]
            unfold parP
            cases hc2 : cutL r with
            | none =>
              rw [rcutV_no _ hc2] at HC2
              have HP := fun W => Col.rparse_any ⟨#[]⟩ W
              obtain ⟨u, v, z, hz, -⟩ := prs_form []
              rw [show prsV ((⟨#[]⟩ : ByteArray).data.toList) = _ from hz] at HP
              exact rpar_4_cut s w a r hs HC (beq_no h0) (beq_no h2) (by simp [h4]) HC2 u v z HP
            | some p2 =>
              obtain ⟨a2, c⟩ := p2
              obtain ⟨ha2, hc3⟩ := cut_len _ a2 c hc2
              rw [rcutV_some _ a2 c hc2] at HC2
              rw [Option.bind_some]
              dsimp only
              have HP := fun W => Col.rparse_any ⟨c.toArray⟩ W
              have HN := fun W => rnumber_any ⟨a2.toArray⟩ W (by rw [Lib.size_mk]; omega)
              dsimp only at HP HN
              cases hn : num3 a2 with
              | none =>
                obtain ⟨u, v, z, hz, -⟩ := prs_form c
                rw [hz] at HP
                rw [← num_none _ hn] at HN
                exact rpar_4_num s w a r hs HC a2 c (beq_no h0) (beq_no h2) (by simp [h4]) HC2 u v z HP _ HN rfl
              | some n =>
                rw [← num_some _ n hn] at HN
                cases hp : parseL c with
                | none =>
                  obtain ⟨u, v, z, hz, hz0⟩ := prs_form c
                  rw [hz] at HP
                  exact rpar_4_col s w a r hs HC a2 c (beq_no h0) (beq_no h2) (by simp [h4]) HC2 u v z HP _ HN (decide_eq_true (by omega)) (hz0 hp)
                | some x =>
                  rw [← prsV_some c x hp] at HP
                  exact rpar_4_yes s w a r hs HC a2 c x n (beq_no h0) (beq_no h2) (by simp [h4]) HC2 HP HN
          · rw [if_neg h4]
            by_cases h52 : a = [53, 50]
            · rw [if_pos h52]
              unfold parC
              cases hc2 : cutL r with
              | none =>
                rw [rcutV_no _ hc2] at HC2
                have HD := fun W => B64.rdecode_any ⟨#[]⟩ W (by decide)
                obtain ⟨X, z, hz, -⟩ := dec_form []
                rw [show B64.decV' ((⟨#[]⟩ : ByteArray).data.toList) = _ from hz] at HD
                exact rpar_52_cut s w a r hs HC (beq_no h0) (beq_no h2) (beq_no h4) (by simp [h52]) HC2 X z HD
              | some p2 =>
                obtain ⟨a2, c⟩ := p2
                obtain ⟨ha2, hc3⟩ := cut_len _ a2 c hc2
                rw [rcutV_some _ a2 c hc2] at HC2
                rw [Option.bind_some]
                dsimp only
                have HD := fun W => B64.rdecode_any ⟨c.toArray⟩ W (by rw [Lib.size_mk]; omega)
                dsimp only at HD
                by_cases h99 : a2 = [99]
                · rw [if_pos h99]
                  cases hd : B64.decL c with
                  | none =>
                    obtain ⟨X, z, hz, hz0⟩ := dec_form c
                    rw [hz] at HD
                    exact rpar_52_dec s w a r hs HC a2 c (beq_no h0) (beq_no h2) (beq_no h4) (by simp [h52]) HC2 (by simp [h99]) X z HD (hz0 hd)
                  | some x =>
                    rw [B64.decV_some _ x hd] at HD
                    rw [Option.bind_some]
                    by_cases hx : x.length ≤ 378
                    · rw [if_pos hx]
                      exact rpar_52_yes s w a r hs HC a2 c x (beq_no h0) (beq_no h2) (beq_no h4) (by simp [h52]) HC2 (by simp [h99]) HD (decide_eq_true (by omega))
                    · rw [if_neg hx]
                      exact rpar_52_len s w a r hs HC a2 c (beq_no h0) (beq_no h2) (beq_no h4) (by simp [h52]) HC2 (by simp [h99]) _ HD (decide_eq_false (by rw [Lib.size_mk]; omega))
                · rw [if_neg h99]
                  obtain ⟨X, z, hz, -⟩ := dec_form c
                  rw [hz] at HD
                  exact rpar_52_sel s w a r hs HC a2 c (beq_no h0) (beq_no h2) (beq_no h4) (by simp [h52]) HC2 (beq_no h99) X z HD
            · rw [if_neg h52]
              exact rpar_no s w a r hs HC (beq_no h0) (beq_no h2) (beq_no h4) (beq_no h52)
end Go.Proofs.YtoilcigmpeaedaaGreatDoor.Osc
