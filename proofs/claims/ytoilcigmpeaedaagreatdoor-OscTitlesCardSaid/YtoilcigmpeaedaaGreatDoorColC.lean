/-
  Contracts of the color package's Rgb, distanceFrom, the closure that it returns, and Nearest.
-/
import Derived.Test.YtoilcigmpeaedaaGreatDoorColB
namespace Go.Proofs.YtoilcigmpeaedaaGreatDoor.Col
open Go.RowKit Utf

/-- what Rgb answers -/
def rgbV (k n : Int) : Value := .tuple #[.int .i64 ((rgbC k n).getD 0), .bool (rgbC k n).isSome]
theorem rgbV_none (k n : Int) (h : rgbC k n = none) : Value.tuple #[.int .i64 0, .bool false] = rgbV k n := by rw [rgbV, h]; rfl
theorem rgbV_some (k n x : Int) (h : rgbC k n = some x) : Value.tuple #[.int .i64 x, .bool true] = rgbV k n := by rw [rgbV, h]; rfl
theorem ok_cases (k n : Int) (h : okC k n = true) : (k = 0 ∧ n = 0) ∨ (k = 1 ∧ 0 ≤ n ∧ n ≤ 255) ∨ (k = 2 ∧ 0 ≤ n ∧ n ≤ 16777215) := by simpa [okC] using h

set_option maxRecDepth 100000 in
set_option maxHeartbeats 2000000 in
theorem rgb_any (k n : Int) (w : World) (h : Tc w) : Calls Tryz.prog 51 #[colV k n] w fun e w' => e = .returned (rgbV k n) ∧ Below w.heap.size w w' := by
  have H := Lib.hid h; clear h
  cases ho : okC k n with
  | false =>
    have hf := Lib.hid (rgbV_none k n (by rw [rgbC, ho]; rfl))
    have he := Lib.hid (show errC k n = 130 by rw [errC, ho]; rfl)
    clear ho
    unfold colV
    go_enter Tryz.func51, Tryz.ntmps51
    go_wp2_with fail
    refine (check_any k n _ ((H.out).keep (below_box _ _))).mono ?_
    rw [he.out]
    rintro e w1 ⟨rfl, hb1⟩
    go_wp2
    go_ret2
    exact ⟨congrArg _ hf.out, (below_box _ _).trans (hb1.mono (by simp))⟩
  | true =>
    have he := Lib.hid (show errC k n = 0 by rw [errC, ho]; rfl)
    rcases ok_cases k n ho with ⟨rfl, rfl⟩ | ⟨rfl, h1, h2⟩ | ⟨rfl, h1, h2⟩
    · have hf := Lib.hid (rgbV_none 0 0 rfl)
      clear ho
      unfold colV
      go_enter Tryz.func51, Tryz.ntmps51
      go_wp2_with fail
      refine (check_any 0 0 _ ((H.out).keep (below_box _ _))).mono ?_
      rw [he.out]
      rintro e w1 ⟨rfl, hb1⟩
      have c0 := (hb1.cell (p := ⟨w.heap.size, 0, none⟩) (by simp))
      go_wp2
      go_ret2
      exact ⟨congrArg _ hf.out, (below_box _ _).trans (hb1.mono (by simp))⟩
    · obtain ⟨m, rfl⟩ := Int.eq_ofNat_of_zero_le h1
      have hf := Lib.hid (rgbV_some 1 (m : Int) (pal m) (by rw [rgbC, ho, if_pos rfl, if_neg (by omega), if_pos rfl, Int.toNat_natCast]))
      clear ho
      unfold colV
      go_enter Tryz.func51, Tryz.ntmps51
      go_wp2_with fail
      refine (check_any 1 (m : Int) _ ((H.out).keep (below_box _ _))).mono ?_
      rw [he.out]
      rintro e w1 ⟨rfl, hb1⟩
      have c0 := (hb1.cell (p := ⟨w.heap.size, 0, none⟩) (by simp))
      have c1 := (hb1.cell (p := ⟨w.heap.size, 1, none⟩) (by simp))
      go_wp2_with fail
      have hb2 : Below w.heap.size w w1 := (below_box _ _).trans (hb1.mono (by simp))
      refine (palette_any m _ ((H.out).keep hb2) (by omega)).mono ?_
      rintro e w2 ⟨rfl, hb3⟩
      go_wp2
      go_ret2
      exact ⟨congrArg _ hf.out, hb2.trans (hb3.mono hb2.size)⟩
    · have hf := Lib.hid (rgbV_some 2 n n (by rw [rgbC, ho, if_pos rfl, if_neg (by omega), if_neg (by omega)]))
      clear ho
      unfold colV
      go_enter Tryz.func51, Tryz.ntmps51
      go_wp2_with fail
      refine (check_any 2 n _ ((H.out).keep (below_box _ _))).mono ?_
      rw [he.out]
      rintro e w1 ⟨rfl, hb1⟩
      have c0 := (hb1.cell (p := ⟨w.heap.size, 0, none⟩) (by simp))
      have c1 := (hb1.cell (p := ⟨w.heap.size, 1, none⟩) (by simp))
      go_wp2
      go_ret2
      exact ⟨congrArg _ hf.out, (below_box _ _).trans (hb1.mono (by simp))⟩

/-- the three components of a number lie in three boxes -/
def Dat (w : World) (B : Nat) (x : Int) : Prop := B + 2 < w.heap.size ∧ w.cell? ⟨B, 0, none⟩ = some (.int .i64 (x / 65536)) ∧ w.cell? ⟨B + 1, 0, none⟩ = some (.int .i64 (x / 256 % 256)) ∧ w.cell? ⟨B + 2, 0, none⟩ = some (.int .i64 (x % 256))
theorem Dat.keep {w w' : World} {B : Nat} {x : Int} (h : Dat w B x) (hb : Below w.heap.size w w') : Dat w' B x := by
  obtain ⟨h0, h1, h2, h3⟩ := h
  exact ⟨Nat.lt_of_lt_of_le h0 hb.size, (hb.cell (p := ⟨B, 0, none⟩) (show B < _ by omega)).trans h1, (hb.cell (p := ⟨B + 1, 0, none⟩) (show B + 1 < _ by omega)).trans h2, (hb.cell (p := ⟨B + 2, 0, none⟩) (show B + 2 < _ by omega)).trans h3⟩
theorem cell_new (w : World) (v : Value) (t : TypeId) : (w.alloc (.cells #[v] t)).cell? ⟨w.heap.size, 0, none⟩ = some v := by
  have := cell_one_new w v t 0 v rfl
  exact this
theorem cell_box (w : World) (o : Obj) (B k : Nat) (v : Value) (h : w.cell? ⟨B, k, none⟩ = some v) (hb : B < w.heap.size) : (w.alloc o).cell? ⟨B, k, none⟩ = some v := ((below_box w o).cell (p := ⟨B, k, none⟩) hb).trans h
theorem dat_new (w : World) (x : Int) (t : TypeId) : Dat (((w.alloc (.cells #[.int .i64 (x / 65536)] t)).alloc (.cells #[.int .i64 (x / 256 % 256)] t)).alloc (.cells #[.int .i64 (x % 256)] t)) w.heap.size x := by
  refine ⟨by simp, ?_, ?_, ?_⟩
  · exact cell_box _ _ _ _ _ (cell_box _ _ _ _ _ (cell_new _ _ _) (by simp)) (by simp; omega)
  · have := cell_new (w.alloc (.cells #[.int .i64 (x / 65536)] t)) (.int .i64 (x / 256 % 256)) t
    rw [World.size_alloc] at this
    exact cell_box _ _ _ _ _ this (by simp)
  · have := cell_new ((w.alloc (.cells #[.int .i64 (x / 65536)] t)).alloc (.cells #[.int .i64 (x / 256 % 256)] t)) (.int .i64 (x % 256)) t
    rw [World.size_alloc, World.size_alloc] at this
    exact this

theorem w64_in (n : Int) (h : -9223372036854775808 ≤ n ∧ n ≤ 9223372036854775807) : wrap64 n = n := by unfold wrap64; omega
theorem dst_w (x y : Int) (h1 : 0 ≤ x) (h2 : x ≤ 16777215) (h3 : 0 ≤ y) (h4 : y ≤ 16777215) : wrap64 (wrap64 (wrap64 ((x / 65536 - y / 65536) * (x / 65536 - y / 65536)) + wrap64 ((x / 256 % 256 - y / 256 % 256) * (x / 256 % 256 - y / 256 % 256))) + wrap64 ((x % 256 - y % 256) * (x % 256 - y % 256))) = dst x y := by
  have b1 := sq_bd (x / 65536 - y / 65536) (by omega) (by omega)
  have b2 := sq_bd (x / 256 % 256 - y / 256 % 256) (by omega) (by omega)
  have b3 := sq_bd (x % 256 - y % 256) (by omega) (by omega)
  unfold dst
  generalize (x / 65536 - y / 65536) * (x / 65536 - y / 65536) = a at *
  generalize (x / 256 % 256 - y / 256 % 256) * (x / 256 % 256 - y / 256 % 256) = b at *
  generalize (x % 256 - y % 256) * (x % 256 - y % 256) = c at *
  rw [w64_in a (by omega), w64_in b (by omega), w64_in c (by omega), w64_in (a + b) (by omega), w64_in _ (by omega)]
theorem nearL_succ_yes (x : Int) (k : Nat) (h : dst x (pal (k + 1)) < dst x (pal (nearL x k))) : nearL x (k + 1) = k + 1 := by rw [nearL, if_pos h]
theorem nearL_succ_no (x : Int) (k : Nat) (h : ¬ dst x (pal (k + 1)) < dst x (pal (nearL x k))) : nearL x (k + 1) = nearL x k := by rw [nearL, if_neg h]
/-- what Nearest answers -/
def nearV (x : Int) : Value := .tuple #[.int .i64 (nearC x), .int .i64 (nearE x)]
end Go.Proofs.YtoilcigmpeaedaaGreatDoor.Col
