/-
  OscL
-/
import Derived.Test.YtoilcigmpeaedaaGreatDoorF22
import Derived.Test.YtoilcigmpeaedaaGreatDoorF23
import Derived.Test.YtoilcigmpeaedaaGreatDoorF30
import Derived.Test.YtoilcigmpeaedaaGreatDoorF31
import Derived.Test.YtoilcigmpeaedaaGreatDoorF33
namespace Go.Proofs.YtoilcigmpeaedaaGreatDoor.Osc
open Go.RowKit Utf Col

set_option maxRecDepth 100000 in
set_option maxHeartbeats 4000000 in
theorem rp_tit (k n m c0 c1 : Int) (t : List UInt8) (w : World) (R : Value) (hs : t.length ≤ 1000000) (HQ1 : ∀ W, (binOp .eql 25 (.agg #[.int .i64 k, .int .i64 n, .int .i64 m, .int .i64 c0, .int .i64 c1, .string ⟨t.toArray⟩]) (.agg #[.int .i64 44, .int .i64 0, .int .i64 0, .int .i64 0, .int .i64 0, .string ⟨t.toArray⟩])).run Tryz.prog W = .ok (.bool true) W) (HT : ∀ W, Calls Tryz.prog 29 #[.string ⟨t.toArray⟩] W fun e w' => e = .returned (.bool true) ∧ Below W.heap.size W w') (HF : Value.tuple #[.string (⟨#[50, 59]⟩ ++ ⟨t.toArray⟩), .int .i64 0] = R) : Calls Tryz.prog 11 #[actV ⟨k, n, m, c0, c1, t⟩] w fun e w' => e = .returned R ∧ Below w.heap.size w w' := by
  have hb0 := fun o => B64.below_box w o
  unfold actV
  dsimp only
  have HT := Lib.hid HT
  have hl9 : ¬ 9223372036854775807 < 2 + t.length := by omega
  clear hs
  go_enter Tryz.func11, Tryz.ntmps11
  go_wp2_with fail
  refine (HT.out _).mono ?_
  rintro e w1 ⟨rfl, hb1⟩
  have HX := Lib.hid ((bx_new w k n m c0 c1 t).keep hb1)
  obtain ⟨y0, y1, y2, y3, y4, y5⟩ := box6 HX.out
  have hG := Lib.hid (B64.up (hb0 _) hb1)
  clear hb1
  go_wp2_with fail
  go_ret2
  exact ⟨congrArg Ending.returned HF, hG.out⟩
set_option maxRecDepth 100000 in
set_option maxHeartbeats 4000000 in
theorem rp_tit_no (k n m c0 c1 : Int) (t : List UInt8) (w : World) (R : Value) (HQ1 : ∀ W, (binOp .eql 25 (.agg #[.int .i64 k, .int .i64 n, .int .i64 m, .int .i64 c0, .int .i64 c1, .string ⟨t.toArray⟩]) (.agg #[.int .i64 44, .int .i64 0, .int .i64 0, .int .i64 0, .int .i64 0, .string ⟨t.toArray⟩])).run Tryz.prog W = .ok (.bool true) W) (HQ2 : ∀ W, (binOp .eql 25 (.agg #[.int .i64 k, .int .i64 n, .int .i64 m, .int .i64 c0, .int .i64 c1, .string ⟨t.toArray⟩]) (.agg #[.int .i64 45, .int .i64 n, .int .i64 0, .int .i64 c0, .int .i64 c1, .string ⟨#[]⟩])).run Tryz.prog W = .ok (.bool false) W) (HQ3 : ∀ W, (binOp .eql 25 (.agg #[.int .i64 k, .int .i64 n, .int .i64 m, .int .i64 c0, .int .i64 c1, .string ⟨t.toArray⟩]) (.agg #[.int .i64 46, .int .i64 0, .int .i64 0, .int .i64 0, .int .i64 0, .string ⟨t.toArray⟩])).run Tryz.prog W = .ok (.bool false) W) (HT : ∀ W, Calls Tryz.prog 29 #[.string ⟨t.toArray⟩] W fun e w' => e = .returned (.bool false) ∧ Below W.heap.size W w') (HF : Value.tuple #[.string ⟨#[]⟩, .int .i64 2] = R) : Calls Tryz.prog 11 #[actV ⟨k, n, m, c0, c1, t⟩] w fun e w' => e = .returned R ∧ Below w.heap.size w w' := by
  have hb0 := fun o => B64.below_box w o
  unfold actV
  dsimp only
  have HT := Lib.hid HT
  go_enter Tryz.func11, Tryz.ntmps11
  go_wp2_with fail
  refine (HT.out _).mono ?_
  rintro e w1 ⟨rfl, hb1⟩
  have HX := Lib.hid ((bx_new w k n m c0 c1 t).keep hb1)
  obtain ⟨y0, y1, y2, y3, y4, y5⟩ := box6 HX.out
  have hG := Lib.hid (B64.up (hb0 _) hb1)
  clear hb1
  go_wp2_with fail
  go_ret2
  exact ⟨congrArg Ending.returned HF, hG.out⟩
set_option maxRecDepth 100000 in
set_option maxHeartbeats 4000000 in
theorem rp_no (k n m c0 c1 : Int) (t : List UInt8) (w : World) (R : Value) (HQ1 : ∀ W, (binOp .eql 25 (.agg #[.int .i64 k, .int .i64 n, .int .i64 m, .int .i64 c0, .int .i64 c1, .string ⟨t.toArray⟩]) (.agg #[.int .i64 44, .int .i64 0, .int .i64 0, .int .i64 0, .int .i64 0, .string ⟨t.toArray⟩])).run Tryz.prog W = .ok (.bool false) W) (HQ2 : ∀ W, (binOp .eql 25 (.agg #[.int .i64 k, .int .i64 n, .int .i64 m, .int .i64 c0, .int .i64 c1, .string ⟨t.toArray⟩]) (.agg #[.int .i64 45, .int .i64 n, .int .i64 0, .int .i64 c0, .int .i64 c1, .string ⟨#[]⟩])).run Tryz.prog W = .ok (.bool false) W) (HQ3 : ∀ W, (binOp .eql 25 (.agg #[.int .i64 k, .int .i64 n, .int .i64 m, .int .i64 c0, .int .i64 c1, .string ⟨t.toArray⟩]) (.agg #[.int .i64 46, .int .i64 0, .int .i64 0, .int .i64 0, .int .i64 0, .string ⟨t.toArray⟩])).run Tryz.prog W = .ok (.bool false) W) (HF : Value.tuple #[.string ⟨#[]⟩, .int .i64 2] = R) : Calls Tryz.prog 11 #[actV ⟨k, n, m, c0, c1, t⟩] w fun e w' => e = .returned R ∧ Below w.heap.size w w' := by
  have hb0 := fun o => B64.below_box w o
  unfold actV
  dsimp only
  go_enter Tryz.func11, Tryz.ntmps11
  go_wp2_with fail
  go_ret2
  exact ⟨congrArg Ending.returned HF, hb0 _⟩
set_option maxRecDepth 100000 in
set_option maxHeartbeats 4000000 in
theorem rp_pal_0 (k n m c0 c1 : Int) (t : List UInt8) (w : World) (R : Value) (HQ1 : ∀ W, (binOp .eql 25 (.agg #[.int .i64 k, .int .i64 n, .int .i64 m, .int .i64 c0, .int .i64 c1, .string ⟨t.toArray⟩]) (.agg #[.int .i64 44, .int .i64 0, .int .i64 0, .int .i64 0, .int .i64 0, .string ⟨t.toArray⟩])).run Tryz.prog W = .ok (.bool false) W) (HQ2 : ∀ W, (binOp .eql 25 (.agg #[.int .i64 k, .int .i64 n, .int .i64 m, .int .i64 c0, .int .i64 c1, .string ⟨t.toArray⟩]) (.agg #[.int .i64 45, .int .i64 n, .int .i64 0, .int .i64 c0, .int .i64 c1, .string ⟨#[]⟩])).run Tryz.prog W = .ok (.bool true) W) (HQ3 : ∀ W, (binOp .eql 25 (.agg #[.int .i64 k, .int .i64 n, .int .i64 m, .int .i64 c0, .int .i64 c1, .string ⟨t.toArray⟩]) (.agg #[.int .i64 46, .int .i64 0, .int .i64 0, .int .i64 0, .int .i64 0, .string ⟨t.toArray⟩])).run Tryz.prog W = .ok (.bool false) W) (hn : decide (0 ≤ n) = false) (HF : Value.tuple #[.string ⟨#[]⟩, .int .i64 2] = R) : Calls Tryz.prog 11 #[actV ⟨k, n, m, c0, c1, t⟩] w fun e w' => e = .returned R ∧ Below w.heap.size w w' := by
  have hb0 := fun o => B64.below_box w o
  unfold actV
  dsimp only
  go_enter Tryz.func11, Tryz.ntmps11
  go_wp2_with fail
  go_ret2
  exact ⟨congrArg Ending.returned HF, hb0 _⟩
set_option maxRecDepth 100000 in
set_option maxHeartbeats 4000000 in
theorem rp_pal_1 (k n m c0 c1 : Int) (t : List UInt8) (w : World) (R : Value) (HQ1 : ∀ W, (binOp .eql 25 (.agg #[.int .i64 k, .int .i64 n, .int .i64 m, .int .i64 c0, .int .i64 c1, .string ⟨t.toArray⟩]) (.agg #[.int .i64 44, .int .i64 0, .int .i64 0, .int .i64 0, .int .i64 0, .string ⟨t.toArray⟩])).run Tryz.prog W = .ok (.bool false) W) (HQ2 : ∀ W, (binOp .eql 25 (.agg #[.int .i64 k, .int .i64 n, .int .i64 m, .int .i64 c0, .int .i64 c1, .string ⟨t.toArray⟩]) (.agg #[.int .i64 45, .int .i64 n, .int .i64 0, .int .i64 c0, .int .i64 c1, .string ⟨#[]⟩])).run Tryz.prog W = .ok (.bool true) W) (HQ3 : ∀ W, (binOp .eql 25 (.agg #[.int .i64 k, .int .i64 n, .int .i64 m, .int .i64 c0, .int .i64 c1, .string ⟨t.toArray⟩]) (.agg #[.int .i64 46, .int .i64 0, .int .i64 0, .int .i64 0, .int .i64 0, .string ⟨t.toArray⟩])).run Tryz.prog W = .ok (.bool false) W) (hn : decide (0 ≤ n) = true) (hn2 : decide (n ≤ 255) = false) (HF : Value.tuple #[.string ⟨#[]⟩, .int .i64 2] = R) : Calls Tryz.prog 11 #[actV ⟨k, n, m, c0, c1, t⟩] w fun e w' => e = .returned R ∧ Below w.heap.size w w' := by
  have hb0 := fun o => B64.below_box w o
  unfold actV
  dsimp only
  go_enter Tryz.func11, Tryz.ntmps11
  go_wp2_with fail
  go_ret2
  exact ⟨congrArg Ending.returned HF, hb0 _⟩
set_option maxRecDepth 100000 in
set_option maxHeartbeats 4000000 in
theorem rp_pal_2 (k n m c0 c1 : Int) (t : List UInt8) (w : World) (R : Value) (HQ1 : ∀ W, (binOp .eql 25 (.agg #[.int .i64 k, .int .i64 n, .int .i64 m, .int .i64 c0, .int .i64 c1, .string ⟨t.toArray⟩]) (.agg #[.int .i64 44, .int .i64 0, .int .i64 0, .int .i64 0, .int .i64 0, .string ⟨t.toArray⟩])).run Tryz.prog W = .ok (.bool false) W) (HQ2 : ∀ W, (binOp .eql 25 (.agg #[.int .i64 k, .int .i64 n, .int .i64 m, .int .i64 c0, .int .i64 c1, .string ⟨t.toArray⟩]) (.agg #[.int .i64 45, .int .i64 n, .int .i64 0, .int .i64 c0, .int .i64 c1, .string ⟨#[]⟩])).run Tryz.prog W = .ok (.bool true) W) (HQ3 : ∀ W, (binOp .eql 25 (.agg #[.int .i64 k, .int .i64 n, .int .i64 m, .int .i64 c0, .int .i64 c1, .string ⟨t.toArray⟩]) (.agg #[.int .i64 46, .int .i64 0, .int .i64 0, .int .i64 0, .int .i64 0, .string ⟨t.toArray⟩])).run Tryz.prog W = .ok (.bool false) W) (hn : decide (0 ≤ n) = true) (hn2 : decide (n ≤ 255) = true) (h2 : (c0 == 2) = false) (HF : Value.tuple #[.string ⟨#[]⟩, .int .i64 2] = R) : Calls Tryz.prog 11 #[actV ⟨k, n, m, c0, c1, t⟩] w fun e w' => e = .returned R ∧ Below w.heap.size w w' := by
  have hb0 := fun o => B64.below_box w o
  unfold actV
  dsimp only
  go_enter Tryz.func11, Tryz.ntmps11
  go_wp2_with fail
  go_ret2
  exact ⟨congrArg Ending.returned HF, hb0 _⟩
set_option maxRecDepth 100000 in
set_option maxHeartbeats 4000000 in
theorem rp_pal_3 (k n m c0 c1 : Int) (t : List UInt8) (w : World) (R : Value) (HQ1 : ∀ W, (binOp .eql 25 (.agg #[.int .i64 k, .int .i64 n, .int .i64 m, .int .i64 c0, .int .i64 c1, .string ⟨t.toArray⟩]) (.agg #[.int .i64 44, .int .i64 0, .int .i64 0, .int .i64 0, .int .i64 0, .string ⟨t.toArray⟩])).run Tryz.prog W = .ok (.bool false) W) (HQ2 : ∀ W, (binOp .eql 25 (.agg #[.int .i64 k, .int .i64 n, .int .i64 m, .int .i64 c0, .int .i64 c1, .string ⟨t.toArray⟩]) (.agg #[.int .i64 45, .int .i64 n, .int .i64 0, .int .i64 c0, .int .i64 c1, .string ⟨#[]⟩])).run Tryz.prog W = .ok (.bool true) W) (S : ByteArray) (z : Int) (hn : decide (0 ≤ n) = true) (hn2 : decide (n ≤ 255) = true) (h2 : (c0 == 2) = true) (hz : (z == 0) = false) (HX0 : ∀ W, Calls Tryz.prog 30 #[.agg #[.int .i64 c0, .int .i64 c1]] W fun e w' => e = .returned (.tuple #[.string S, .int .i64 z]) ∧ Below W.heap.size W w') (HF : Value.tuple #[.string ⟨#[]⟩, .int .i64 2] = R) : Calls Tryz.prog 11 #[actV ⟨k, n, m, c0, c1, t⟩] w fun e w' => e = .returned R ∧ Below w.heap.size w w' := by
  have hb0 := fun o => B64.below_box w o
  unfold actV
  dsimp only
  have HX0 := Lib.hid HX0
  go_enter Tryz.func11, Tryz.ntmps11
  go_wp2_with fail
  refine (HX0.out _).mono ?_
  rintro e w1 ⟨rfl, hb1⟩
  have HX := Lib.hid ((bx_new w k n m c0 c1 t).keep hb1)
  obtain ⟨y0, y1, y2, y3, y4, y5⟩ := box6 HX.out
  have hG := Lib.hid (B64.up (hb0 _) hb1)
  clear hb1
  go_wp2_with fail
  go_ret2
  exact ⟨congrArg Ending.returned HF, hG.out⟩
set_option maxRecDepth 100000 in
set_option maxHeartbeats 4000000 in
theorem rp_pal (k n m c0 c1 : Int) (t : List UInt8) (w : World) (R : Value) (N x : Nat) (hN : n = (N : Int)) (HQ1 : ∀ W, (binOp .eql 25 (.agg #[.int .i64 k, .int .i64 n, .int .i64 m, .int .i64 c0, .int .i64 c1, .string ⟨t.toArray⟩]) (.agg #[.int .i64 44, .int .i64 0, .int .i64 0, .int .i64 0, .int .i64 0, .string ⟨t.toArray⟩])).run Tryz.prog W = .ok (.bool false) W) (HQ2 : ∀ W, (binOp .eql 25 (.agg #[.int .i64 k, .int .i64 n, .int .i64 m, .int .i64 c0, .int .i64 c1, .string ⟨t.toArray⟩]) (.agg #[.int .i64 45, .int .i64 n, .int .i64 0, .int .i64 c0, .int .i64 c1, .string ⟨#[]⟩])).run Tryz.prog W = .ok (.bool true) W) (hn : decide (0 ≤ n) = true) (hn2 : decide (n ≤ 255) = true) (h2 : (c0 == 2) = true) (HX0 : ∀ W, Calls Tryz.prog 30 #[.agg #[.int .i64 c0, .int .i64 c1]] W fun e w' => e = .returned (.tuple #[.string ⟨(txt x).toArray⟩, .int .i64 0]) ∧ Below W.heap.size W w')
    (HI : ∀ W, Calls Tryz.prog 31 #[.int .i64 (N : Int)] W fun e w' => e = .returned (.string ⟨(decN N).toArray⟩) ∧ Below W.heap.size W w') (hd : (decN N).length ≤ 3)
    (HF : Value.tuple #[.string (⟨#[52, 59]⟩ ++ ⟨(decN N).toArray⟩ ++ ⟨#[59]⟩ ++ ⟨(txt x).toArray⟩), .int .i64 0] = R) : Calls Tryz.prog 11 #[actV ⟨k, n, m, c0, c1, t⟩] w fun e w' => e = .returned R ∧ Below w.heap.size w w' := by
  have hb0 := fun o => B64.below_box w o
  unfold actV
  dsimp only
  subst hN
  have HX0 := Lib.hid HX0
  have HI := Lib.hid HI
  have hx12 := txt_len x
  obtain ⟨D, hD⟩ : ∃ D, D = decN N := ⟨_, rfl⟩
  obtain ⟨X, hX⟩ : ∃ X, X = txt x := ⟨_, rfl⟩
  rw [← hD] at HI HF hd
  rw [← hX] at HX0 HF hx12
  clear hD hX
  have hl7 : ¬ 9223372036854775807 < 2 + D.length := by omega
  have hl8 : ¬ 9223372036854775807 < 2 + D.length + 1 := by omega
  have hl9 : ¬ 9223372036854775807 < 2 + D.length + 1 + X.length := by omega
  clear hd hx12
  go_enter Tryz.func11, Tryz.ntmps11
  go_wp2_with fail
  refine (HX0.out _).mono ?_
  rintro e w1 ⟨rfl, hb1⟩
  have HX := Lib.hid ((bx_new w k N m c0 c1 t).keep hb1)
  obtain ⟨y0, y1, y2, y3, y4, y5⟩ := box6 HX.out
  have hG := Lib.hid (B64.up (hb0 _) hb1)
  clear hb1
  go_wp2_with fail
  refine (HI.out _).mono ?_
  rintro e w2 ⟨rfl, hb2⟩
  clear y0 y1 y2 y3 y4 y5
  have HX := Lib.hid (HX.out.keep hb2)
  obtain ⟨y0, y1, y2, y3, y4, y5⟩ := box6 HX.out
  have hG := Lib.hid (B64.up hG.out hb2)
  clear hb2
  go_wp2_with fail
  go_ret2
  exact ⟨congrArg Ending.returned HF, hG.out⟩
set_option maxRecDepth 100000 in
set_option maxHeartbeats 4000000 in
theorem rp_clp_no (k n m c0 c1 : Int) (t : List UInt8) (w : World) (R : Value) (HQ1 : ∀ W, (binOp .eql 25 (.agg #[.int .i64 k, .int .i64 n, .int .i64 m, .int .i64 c0, .int .i64 c1, .string ⟨t.toArray⟩]) (.agg #[.int .i64 44, .int .i64 0, .int .i64 0, .int .i64 0, .int .i64 0, .string ⟨t.toArray⟩])).run Tryz.prog W = .ok (.bool false) W) (HQ2 : ∀ W, (binOp .eql 25 (.agg #[.int .i64 k, .int .i64 n, .int .i64 m, .int .i64 c0, .int .i64 c1, .string ⟨t.toArray⟩]) (.agg #[.int .i64 45, .int .i64 n, .int .i64 0, .int .i64 c0, .int .i64 c1, .string ⟨#[]⟩])).run Tryz.prog W = .ok (.bool false) W) (HQ3 : ∀ W, (binOp .eql 25 (.agg #[.int .i64 k, .int .i64 n, .int .i64 m, .int .i64 c0, .int .i64 c1, .string ⟨t.toArray⟩]) (.agg #[.int .i64 46, .int .i64 0, .int .i64 0, .int .i64 0, .int .i64 0, .string ⟨t.toArray⟩])).run Tryz.prog W = .ok (.bool true) W) (hl : decide ((t.length : Int) ≤ 378) = false) (HF : Value.tuple #[.string ⟨#[]⟩, .int .i64 2] = R) : Calls Tryz.prog 11 #[actV ⟨k, n, m, c0, c1, t⟩] w fun e w' => e = .returned R ∧ Below w.heap.size w w' := by
  have hb0 := fun o => B64.below_box w o
  unfold actV
  dsimp only
  go_enter Tryz.func11, Tryz.ntmps11
  go_wp2_with fail
  go_ret2
  exact ⟨congrArg Ending.returned HF, hb0 _⟩
set_option maxRecDepth 100000 in
set_option maxHeartbeats 4000000 in
theorem rp_clp (k n m c0 c1 : Int) (t : List UInt8) (w : World) (R : Value) (E : List UInt8) (HQ1 : ∀ W, (binOp .eql 25 (.agg #[.int .i64 k, .int .i64 n, .int .i64 m, .int .i64 c0, .int .i64 c1, .string ⟨t.toArray⟩]) (.agg #[.int .i64 44, .int .i64 0, .int .i64 0, .int .i64 0, .int .i64 0, .string ⟨t.toArray⟩])).run Tryz.prog W = .ok (.bool false) W) (HQ2 : ∀ W, (binOp .eql 25 (.agg #[.int .i64 k, .int .i64 n, .int .i64 m, .int .i64 c0, .int .i64 c1, .string ⟨t.toArray⟩]) (.agg #[.int .i64 45, .int .i64 n, .int .i64 0, .int .i64 c0, .int .i64 c1, .string ⟨#[]⟩])).run Tryz.prog W = .ok (.bool false) W) (HQ3 : ∀ W, (binOp .eql 25 (.agg #[.int .i64 k, .int .i64 n, .int .i64 m, .int .i64 c0, .int .i64 c1, .string ⟨t.toArray⟩]) (.agg #[.int .i64 46, .int .i64 0, .int .i64 0, .int .i64 0, .int .i64 0, .string ⟨t.toArray⟩])).run Tryz.prog W = .ok (.bool true) W) (hl : decide ((t.length : Int) ≤ 378) = true) (hE : E.length ≤ 1000000)
    (HX0 : ∀ W, Calls Tryz.prog 32 #[.string ⟨t.toArray⟩] W fun e w' => e = .returned (.tuple #[.string ⟨E.toArray⟩, .int .i64 0]) ∧ Below W.heap.size W w')
    (HF : Value.tuple #[.string (⟨#[53, 50, 59, 99, 59]⟩ ++ ⟨E.toArray⟩), .int .i64 0] = R) : Calls Tryz.prog 11 #[actV ⟨k, n, m, c0, c1, t⟩] w fun e w' => e = .returned R ∧ Below w.heap.size w w' := by
  have hb0 := fun o => B64.below_box w o
  unfold actV
  dsimp only
  have HX0 := Lib.hid HX0
  have hl9 : ¬ 9223372036854775807 < 5 + E.length := by omega
  clear hE
  go_enter Tryz.func11, Tryz.ntmps11
  go_wp2_with fail
  refine (HX0.out _).mono ?_
  rintro e w1 ⟨rfl, hb1⟩
  have HX := Lib.hid ((bx_new w k n m c0 c1 t).keep hb1)
  obtain ⟨y0, y1, y2, y3, y4, y5⟩ := box6 HX.out
  have hG := Lib.hid (B64.up (hb0 _) hb1)
  clear hb1
  go_wp2_with fail
  go_ret2
  exact ⟨congrArg Ending.returned HF, hG.out⟩
theorem dec_decN (n : Nat) (h : n < 256) : Lib.decDigits n = decN n := by
  rw [← itoa_dec n h, Lib.itoa, if_neg (by omega), Int.toNat_natCast]
theorem rdigits_any (n : Nat) (h : n < 256) (w : World) : Calls Tryz.prog 31 #[.int .i64 (n : Int)] w fun e w' => e = .returned (.string ⟨(decN n).toArray⟩) ∧ Below w.heap.size w w' := by
  rw [← dec_decN n h]
  exact digits_any n (by omega) w
theorem eql1 (k n m c0 c1 : Int) (t : List UInt8) (v : Bool) (h : eqA ⟨k, n, m, c0, c1, t⟩ ⟨44, 0, 0, 0, 0, t⟩ = v) : ∀ W, (binOp .eql 25 (.agg #[.int .i64 k, .int .i64 n, .int .i64 m, .int .i64 c0, .int .i64 c1, .string ⟨t.toArray⟩]) (.agg #[.int .i64 44, .int .i64 0, .int .i64 0, .int .i64 0, .int .i64 0, .string ⟨t.toArray⟩])).run Tryz.prog W = .ok (.bool v) W := by
  have HQ : ∀ W, (binOp .eql 25 (actV ⟨k, n, m, c0, c1, t⟩) (actV ⟨44, 0, 0, 0, 0, t⟩)).run Tryz.prog W = .ok (.bool v) W := fun W => by rw [← h]; exact eqlA _ _ W
  unfold actV at HQ
  exact HQ
theorem eql2 (k n m c0 c1 : Int) (t : List UInt8) (v : Bool) (h : eqA ⟨k, n, m, c0, c1, t⟩ ⟨45, n, 0, c0, c1, []⟩ = v) : ∀ W, (binOp .eql 25 (.agg #[.int .i64 k, .int .i64 n, .int .i64 m, .int .i64 c0, .int .i64 c1, .string ⟨t.toArray⟩]) (.agg #[.int .i64 45, .int .i64 n, .int .i64 0, .int .i64 c0, .int .i64 c1, .string ⟨#[]⟩])).run Tryz.prog W = .ok (.bool v) W := by
  have HQ : ∀ W, (binOp .eql 25 (actV ⟨k, n, m, c0, c1, t⟩) (actV ⟨45, n, 0, c0, c1, []⟩)).run Tryz.prog W = .ok (.bool v) W := fun W => by rw [← h]; exact eqlA _ _ W
  unfold actV at HQ
  exact HQ
theorem eql3 (k n m c0 c1 : Int) (t : List UInt8) (v : Bool) (h : eqA ⟨k, n, m, c0, c1, t⟩ ⟨46, 0, 0, 0, 0, t⟩ = v) : ∀ W, (binOp .eql 25 (.agg #[.int .i64 k, .int .i64 n, .int .i64 m, .int .i64 c0, .int .i64 c1, .string ⟨t.toArray⟩]) (.agg #[.int .i64 46, .int .i64 0, .int .i64 0, .int .i64 0, .int .i64 0, .string ⟨t.toArray⟩])).run Tryz.prog W = .ok (.bool v) W := by
  have HQ : ∀ W, (binOp .eql 25 (actV ⟨k, n, m, c0, c1, t⟩) (actV ⟨46, 0, 0, 0, 0, t⟩)).run Tryz.prog W = .ok (.bool v) W := fun W => by rw [← h]; exact eqlA _ _ W
  unfold actV at HQ
  exact HQ
theorem rprint_any (a : A6) (w : World) (hs : a.t.length ≤ 1000000) : Calls Tryz.prog 11 #[actV a] w fun e w' => e = .returned (prtV a) ∧ Below w.heap.size w w' := by
  obtain ⟨k, n, m, c0, c1, t⟩ := a
  dsimp only at hs
  have HT := fun W => rtitle_any ⟨t.toArray⟩ W (by rw [Lib.size_mk]; exact hs)
  dsimp only at HT
  cases q1 : eqA ⟨k, n, m, c0, c1, t⟩ ⟨44, 0, 0, 0, 0, t⟩ with
  | true =>
    have hk : k = 44 := by rw [eqA_iff, decide_eq_true_eq] at q1; injection q1
    have q2 : eqA ⟨k, n, m, c0, c1, t⟩ ⟨45, n, 0, c0, c1, []⟩ = false := by subst hk; rfl
    have q3 : eqA ⟨k, n, m, c0, c1, t⟩ ⟨46, 0, 0, 0, 0, t⟩ = false := by subst hk; rfl
    cases ht : titB t with
    | true =>
      rw [ht] at HT
      exact rp_tit k n m c0 c1 t w _ hs (eql1 _ _ _ _ _ _ _ q1) HT (prt_tit _ (by unfold titA; rw [q1, ht]; rfl))
    | false =>
      rw [ht] at HT
      exact rp_tit_no k n m c0 c1 t w _ (eql1 _ _ _ _ _ _ _ q1) (eql2 _ _ _ _ _ _ _ q2) (eql3 _ _ _ _ _ _ _ q3) HT (prt_none _ (by unfold titA; rw [ht, Bool.and_false]) (by unfold palA; rw [q2]; rfl) (by unfold clpA; rw [q3]; rfl))
  | false =>
    cases q2 : eqA ⟨k, n, m, c0, c1, t⟩ ⟨45, n, 0, c0, c1, []⟩ with
    | true =>
      have q2' := q2
      rw [eqA_iff, decide_eq_true_eq] at q2'
      injection q2' with hk _ hm _ _ htt
      have q3 : eqA ⟨k, n, m, c0, c1, t⟩ ⟨46, 0, 0, 0, 0, t⟩ = false := by subst hk; rfl
      have none := fun (h : palA ⟨k, n, m, c0, c1, t⟩ = false) => prt_none ⟨k, n, m, c0, c1, t⟩ (by unfold titA; rw [q1]; rfl) h (by unfold clpA; rw [q3]; rfl)
      by_cases h0 : 0 ≤ n
      · by_cases h1 : n ≤ 255
        · by_cases h2 : c0 = 2
          · subst h2
            have HX0 := fun W => rtext_any 2 c1 W
            cases ho : okC 2 c1 with
            | true =>
              have h3 : ∃ x : Nat, c1 = (x : Int) ∧ x < 16777216 := by
                unfold okC at ho
                simp at ho
                exact ⟨c1.toNat, by omega, by omega⟩
              obtain ⟨x, rfl, hx⟩ := h3
              obtain ⟨N, rfl⟩ : ∃ N : Nat, n = (N : Int) := ⟨n.toNat, by omega⟩
              subst hk hm htt
              rw [txt_pal x hx] at HX0
              exact rp_pal 45 N 0 2 x [] w _ N x rfl (eql1 _ _ _ _ _ _ _ q1) (eql2 _ _ _ _ _ _ _ q2) (decide_eq_true h0) (decide_eq_true h1) rfl HX0 (fun W => rdigits_any N (by omega) W) ((decN_all ⟨N, by omega⟩).2.1) (prt_pal N x (by omega) hx)
            | false =>
              have e1 : txtV 2 c1 = .tuple #[.string ⟨#[]⟩, .int .i64 130] := (txtV_bad 2 c1 ho).symm
              rw [e1] at HX0
              exact rp_pal_3 k n m 2 c1 t w _ (eql1 _ _ _ _ _ _ _ q1) (eql2 _ _ _ _ _ _ _ q2) _ _ (decide_eq_true h0) (decide_eq_true h1) rfl rfl HX0 (none (by unfold palA errC; rw [ho]; simp))
          · exact rp_pal_2 k n m c0 c1 t w _ (eql1 _ _ _ _ _ _ _ q1) (eql2 _ _ _ _ _ _ _ q2) (eql3 _ _ _ _ _ _ _ q3) (decide_eq_true h0) (decide_eq_true h1) (by simp [h2]) (none (by unfold palA; simp [h2]))
        · exact rp_pal_1 k n m c0 c1 t w _ (eql1 _ _ _ _ _ _ _ q1) (eql2 _ _ _ _ _ _ _ q2) (eql3 _ _ _ _ _ _ _ q3) (decide_eq_true h0) (decide_eq_false h1) (none (by unfold palA; rw [decide_eq_false h1]; simp))
      · exact rp_pal_0 k n m c0 c1 t w _ (eql1 _ _ _ _ _ _ _ q1) (eql2 _ _ _ _ _ _ _ q2) (eql3 _ _ _ _ _ _ _ q3) (decide_eq_false h0) (none (by unfold palA; rw [decide_eq_false h0]; simp))
    | false =>
      cases q3 : eqA ⟨k, n, m, c0, c1, t⟩ ⟨46, 0, 0, 0, 0, t⟩ with
      | true =>
        by_cases hl : t.length ≤ 378
        · exact rp_clp k n m c0 c1 t w _ (B64.encL t) (eql1 _ _ _ _ _ _ _ q1) (eql2 _ _ _ _ _ _ _ q2) (eql3 _ _ _ _ _ _ _ q3) (decide_eq_true (by omega)) (by rw [B64.encL_len]; omega) (fun W => B64.rencode_any ⟨t.toArray⟩ W (by rw [Lib.size_mk]; omega)) (prt_clp _ (by unfold clpA; rw [q3, decide_eq_true hl]; rfl))
        · exact rp_clp_no k n m c0 c1 t w _ (eql1 _ _ _ _ _ _ _ q1) (eql2 _ _ _ _ _ _ _ q2) (eql3 _ _ _ _ _ _ _ q3) (decide_eq_false (by omega)) (prt_none _ (by unfold titA; rw [q1]; rfl) (by unfold palA; rw [q2]; rfl) (by unfold clpA; rw [decide_eq_false hl, Bool.and_false]))
      | false => exact rp_no k n m c0 c1 t w _ (eql1 _ _ _ _ _ _ _ q1) (eql2 _ _ _ _ _ _ _ q2) (eql3 _ _ _ _ _ _ _ q3) (prt_none _ (by unfold titA; rw [q1]; rfl) (by unfold palA; rw [q2]; rfl) (by unfold clpA; rw [q3]; rfl))
end Go.Proofs.YtoilcigmpeaedaaGreatDoor.Osc
