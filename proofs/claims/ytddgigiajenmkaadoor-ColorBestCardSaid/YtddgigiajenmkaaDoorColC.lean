/-
  Contracts of the color package's Rgb, distanceFrom, the closure that it returns, and Nearest.
-/
import Derived.Test.YtddgigiajenmkaaDoorColB
namespace Go.Proofs.YtddgigiajenmkaaDoor.Col
open Go.RowKit Utf

/-- what Rgb answers -/
def rgbV (k n : Int) : Value := .tuple #[.int .i64 ((rgbC k n).getD 0), .bool (rgbC k n).isSome]
theorem rgbV_none (k n : Int) (h : rgbC k n = none) : Value.tuple #[.int .i64 0, .bool false] = rgbV k n := by rw [rgbV, h]; rfl
theorem rgbV_some (k n x : Int) (h : rgbC k n = some x) : Value.tuple #[.int .i64 x, .bool true] = rgbV k n := by rw [rgbV, h]; rfl
theorem ok_cases (k n : Int) (h : okC k n = true) : (k = 0 ∧ n = 0) ∨ (k = 1 ∧ 0 ≤ n ∧ n ≤ 255) ∨ (k = 2 ∧ 0 ≤ n ∧ n ≤ 16777215) := by simpa [okC] using h

set_option maxRecDepth 100000 in
set_option maxHeartbeats 2000000 in
theorem rgb_any (k n : Int) (w : World) (h : Tc w) : Calls Tryd.prog 10 #[colV k n] w fun e w' => e = .returned (rgbV k n) ∧ Below w.heap.size w w' := by
  have H := Lib.hid h; clear h
  cases ho : okC k n with
  | false =>
    have hf := Lib.hid (rgbV_none k n (by rw [rgbC, ho]; rfl))
    have he := Lib.hid (show errC k n = 130 by rw [errC, ho]; rfl)
    clear ho
    unfold colV
    go_enter Tryd.func10, Tryd.ntmps10
    go_wp2_with fail
    refine (check_any k n _ ((H.out).keep (below_box _ _))).mono ?_
    rw [he.out]
    rintro e w1 ⟨rfl, hb1⟩
    go_wp2
    go_ret2
    exact ⟨congrArg _ hf.out, (below_box _ _).trans (hb1.mono (by simp))⟩
  | true =>
    have he := Lib.hid (show errC k n = 0 by rw [errC, ho]; rfl)
    rcases ok_cases k n ho with ⟨rfl, rfl⟩ | ⟨rfl, h1, h2⟩ | ⟨rfl, h1, h2⟩
    · have hf := Lib.hid (rgbV_none 0 0 rfl)
      clear ho
      unfold colV
      go_enter Tryd.func10, Tryd.ntmps10
      go_wp2_with fail
      refine (check_any 0 0 _ ((H.out).keep (below_box _ _))).mono ?_
      rw [he.out]
      rintro e w1 ⟨rfl, hb1⟩
      have c0 := (hb1.cell (p := ⟨w.heap.size, 0, none⟩) (by simp))
      go_wp2
      go_ret2
      exact ⟨congrArg _ hf.out, (below_box _ _).trans (hb1.mono (by simp))⟩
    · obtain ⟨m, rfl⟩ := Int.eq_ofNat_of_zero_le h1
      have hf := Lib.hid (rgbV_some 1 (m : Int) (pal m) (by rw [rgbC, ho, if_pos rfl, if_neg (by omega), if_pos rfl, Int.toNat_natCast]))
      clear ho
      unfold colV
      go_enter Tryd.func10, Tryd.ntmps10
      go_wp2_with fail
      refine (check_any 1 (m : Int) _ ((H.out).keep (below_box _ _))).mono ?_
      rw [he.out]
      rintro e w1 ⟨rfl, hb1⟩
      have c0 := (hb1.cell (p := ⟨w.heap.size, 0, none⟩) (by simp))
      have c1 := (hb1.cell (p := ⟨w.heap.size, 1, none⟩) (by simp))
      go_wp2_with fail
      have hb2 : Below w.heap.size w w1 := (below_box _ _).trans (hb1.mono (by simp))
      refine (palette_any m _ ((H.out).keep hb2) (by omega)).mono ?_
      rintro e w2 ⟨rfl, hb3⟩
      go_wp2
      go_ret2
      exact ⟨congrArg _ hf.out, hb2.trans (hb3.mono hb2.size)⟩
    · have hf := Lib.hid (rgbV_some 2 n n (by rw [rgbC, ho, if_pos rfl, if_neg (by omega), if_neg (by omega)]))
      clear ho
      unfold colV
      go_enter Tryd.func10, Tryd.ntmps10
      go_wp2_with fail
      refine (check_any 2 n _ ((H.out).keep (below_box _ _))).mono ?_
      rw [he.out]
      rintro e w1 ⟨rfl, hb1⟩
      have c0 := (hb1.cell (p := ⟨w.heap.size, 0, none⟩) (by simp))
      have c1 := (hb1.cell (p := ⟨w.heap.size, 1, none⟩) (by simp))
      go_wp2
      go_ret2
      exact ⟨congrArg _ hf.out, (below_box _ _).trans (hb1.mono (by simp))⟩

/-- the three components of a number lie in three boxes -/
def Dat (w : World) (B : Nat) (x : Int) : Prop := B + 2 < w.heap.size ∧ w.cell? ⟨B, 0, none⟩ = some (.int .i64 (x / 65536)) ∧ w.cell? ⟨B + 1, 0, none⟩ = some (.int .i64 (x / 256 % 256)) ∧ w.cell? ⟨B + 2, 0, none⟩ = some (.int .i64 (x % 256))
theorem Dat.keep {w w' : World} {B : Nat} {x : Int} (h : Dat w B x) (hb : Below w.heap.size w w') : Dat w' B x := by
  obtain ⟨h0, h1, h2, h3⟩ := h
  exact ⟨Nat.lt_of_lt_of_le h0 hb.size, (hb.cell (p := ⟨B, 0, none⟩) (show B < _ by omega)).trans h1, (hb.cell (p := ⟨B + 1, 0, none⟩) (show B + 1 < _ by omega)).trans h2, (hb.cell (p := ⟨B + 2, 0, none⟩) (show B + 2 < _ by omega)).trans h3⟩
/-- the closure over them -/
def disV (B : Nat) : Value := .func (.func 35) #[] #[.pointer (some ⟨B, 0, none⟩), .pointer (some ⟨B + 1, 0, none⟩), .pointer (some ⟨B + 2, 0, none⟩)]
theorem cell_new (w : World) (v : Value) (t : TypeId) : (w.alloc (.cells #[v] t)).cell? ⟨w.heap.size, 0, none⟩ = some v := by
  have := cell_one_new w v t 0 v rfl
  exact this
theorem cell_box (w : World) (o : Obj) (B k : Nat) (v : Value) (h : w.cell? ⟨B, k, none⟩ = some v) (hb : B < w.heap.size) : (w.alloc o).cell? ⟨B, k, none⟩ = some v := ((below_box w o).cell (p := ⟨B, k, none⟩) hb).trans h
theorem dat_new (w : World) (x : Int) (t : TypeId) : Dat (((w.alloc (.cells #[.int .i64 (x / 65536)] t)).alloc (.cells #[.int .i64 (x / 256 % 256)] t)).alloc (.cells #[.int .i64 (x % 256)] t)) w.heap.size x := by
  refine ⟨by simp, ?_, ?_, ?_⟩
  · exact cell_box _ _ _ _ _ (cell_box _ _ _ _ _ (cell_new _ _ _) (by simp)) (by simp; omega)
  · have := cell_new (w.alloc (.cells #[.int .i64 (x / 65536)] t)) (.int .i64 (x / 256 % 256)) t
    rw [World.size_alloc] at this
    exact cell_box _ _ _ _ _ this (by simp)
  · have := cell_new ((w.alloc (.cells #[.int .i64 (x / 65536)] t)).alloc (.cells #[.int .i64 (x / 256 % 256)] t)) (.int .i64 (x % 256)) t
    rw [World.size_alloc, World.size_alloc] at this
    exact this

theorem distanceFrom_any (x : Int) (w : World) (h1 : 0 ≤ x) (h2 : x ≤ 16777215) : Calls Tryd.prog 29 #[.int .i64 x] w fun e w' => e = .returned (disV w.heap.size) ∧ Dat w' w.heap.size x ∧ Below w.heap.size w w' := by
  go_enter Tryd.func29, Tryd.ntmps29
  go_wp2_with (go_at_call 34; refine (split_any _ _ h1 h2).mono ?_; rintro e w' ⟨rfl, rfl⟩)
  go_ret
  exact ⟨rfl, dat_new w x _, (((Below.refl _ w).alloc (Nat.le_refl _) _).alloc (by simp) _).alloc (by simp; omega) _⟩

theorem w64_in (n : Int) (h : -9223372036854775808 ≤ n ∧ n ≤ 9223372036854775807) : wrap64 n = n := by unfold wrap64; omega
theorem dst_w (x y : Int) (h1 : 0 ≤ x) (h2 : x ≤ 16777215) (h3 : 0 ≤ y) (h4 : y ≤ 16777215) : wrap64 (wrap64 (wrap64 ((x / 65536 - y / 65536) * (x / 65536 - y / 65536)) + wrap64 ((x / 256 % 256 - y / 256 % 256) * (x / 256 % 256 - y / 256 % 256))) + wrap64 ((x % 256 - y % 256) * (x % 256 - y % 256))) = dst x y := by
  have b1 := sq_bd (x / 65536 - y / 65536) (by omega) (by omega)
  have b2 := sq_bd (x / 256 % 256 - y / 256 % 256) (by omega) (by omega)
  have b3 := sq_bd (x % 256 - y % 256) (by omega) (by omega)
  unfold dst
  generalize (x / 65536 - y / 65536) * (x / 65536 - y / 65536) = a at *
  generalize (x / 256 % 256 - y / 256 % 256) * (x / 256 % 256 - y / 256 % 256) = b at *
  generalize (x % 256 - y % 256) * (x % 256 - y % 256) = c at *
  rw [w64_in a (by omega), w64_in b (by omega), w64_in c (by omega), w64_in (a + b) (by omega), w64_in _ (by omega)]
set_option maxRecDepth 100000 in
set_option maxHeartbeats 2000000 in
theorem dis1_any (x y : Int) (B : Nat) (w : World) (hd : Dat w B x) (h1 : 0 ≤ x) (h2 : x ≤ 16777215) (h3 : 0 ≤ y) (h4 : y ≤ 16777215) :
    Calls Tryd.prog 35 #[.int .i64 y, .pointer (some ⟨B, 0, none⟩), .pointer (some ⟨B + 1, 0, none⟩), .pointer (some ⟨B + 2, 0, none⟩)] w fun e w' => e = .returned (.int .i64 (dst x y)) ∧ w = w' := by
  obtain ⟨h0, c0, c1, c2⟩ := hd
  have hf := Lib.hid (dst_w x y h1 h2 h3 h4)
  go_enter Tryd.func35, Tryd.ntmps35
  go_wp2_with (go_at_call 34; refine (split_any _ _ h3 h4).mono ?_; rintro e w' ⟨rfl, rfl⟩)
  go_ret
  exact ⟨by rw [← hf.out]; rfl, rfl⟩

theorem nearL_succ_yes (x : Int) (k : Nat) (h : dst x (pal (k + 1)) < dst x (pal (nearL x k))) : nearL x (k + 1) = k + 1 := by rw [nearL, if_pos h]
theorem nearL_succ_no (x : Int) (k : Nat) (h : ¬ dst x (pal (k + 1)) < dst x (pal (nearL x k))) : nearL x (k + 1) = nearL x k := by rw [nearL, if_neg h]
/-- what Nearest answers -/
def nearV (x : Int) : Value := .tuple #[.int .i64 (nearC x), .int .i64 (nearE x)]
set_option maxRecDepth 100000 in
set_option maxHeartbeats 2000000 in
theorem nearest_any (x : Int) (w : World) (h : Tc w) : Calls Tryd.prog 18 #[.int .i64 x] w fun e w' => e = .returned (nearV x) ∧ Below w.heap.size w w' := by
  have H := Lib.hid h
  have l1 := h.lim 1 255 rfl
  have l2 := h.lim 2 16777215 rfl
  have hlt := h.1.1
  clear h
  by_cases x0 : x < 0
  · have hf := Lib.hid (show Value.tuple #[.int .i64 0, .int .i64 2] = nearV x by rw [nearV, nearC, nearE, if_neg (by omega), if_neg (by omega)])
    go_enter Tryd.func18, Tryd.ntmps18
    go_wp2
    go_ret2
    exact ⟨congrArg _ hf.out, Below.refl _ _⟩
  · by_cases x1 : 16777215 < x
    · have hf := Lib.hid (show Value.tuple #[.int .i64 0, .int .i64 2] = nearV x by rw [nearV, nearC, nearE, if_neg (by omega), if_neg (by omega)])
      have d1 : decide (x > 16777215) = true := decide_eq_true x1
      go_enter Tryd.func18, Tryd.ntmps18
      go_wp2
      go_ret2
      exact ⟨congrArg _ hf.out, Below.refl _ _⟩
    · have hf := Lib.hid (show Value.tuple #[.int .i64 (nearL x 255 : Int), .int .i64 0] = nearV x by rw [nearV, nearC, nearE, if_pos (by omega), if_pos (by omega)])
      have d1 : decide (x > 16777215) = false := decide_eq_false x1
      have y0 : 0 ≤ x := by omega
      have y1 : x ≤ 16777215 := by omega
      go_enter Tryd.func18, Tryd.ntmps18
      go_wp2_with fail
      refine (distanceFrom_any x _ y0 y1).mono ?_
      rintro e w1 ⟨rfl, hd, hb1⟩
      have HD := Lib.hid hd; clear hd
      unfold disV
      go_wp2_with fail
      refine (palette_any 0 _ ((H.out).keep hb1) (by omega)).mono ?_
      rintro e w2 ⟨rfl, hb2⟩
      have hb3 := hb1.trans (hb2.mono hb1.size)
      have HD2 := Lib.hid ((HD.out).keep hb2)
      clear HD hb1 hb2
      go_wp2_with fail
      refine (dis1_any x (pal 0) _ _ HD2.out y0 y1 (pal_bd 0 (by omega)).1 (pal_bd 0 (by omega)).2).mono ?_
      rintro e w3 ⟨rfl, rfl⟩
      go_wp2_with fail
      clear l1 l2 hlt
      have HI := Lib.hid (And.intro HD2.out hb3)
      clear HD2 hb3
      go_loopw [2, 5, 6] (fun a d i wr => ∃ k : Nat, k ≤ 255 ∧ i = .int .i64 (k + 1 : Int) ∧ a = .int .i64 (nearL x k : Int) ∧ d = .int .i64 (dst x (pal (nearL x k))) ∧ Hid (Dat wr w.heap.size x ∧ Below w.heap.size w wr)) (fun _ _ i _ => 256 - (intOf i).toNat)
      case atStart => exact ⟨0, by omega, rfl, rfl, rfl, HI⟩
      case round =>
        clear HI
        obtain ⟨k, hk, rfl, rfl, rfl, hid⟩ := hrel
        have T := Lib.hid ((H.out).keep hid.out.2)
        have l1 := (T.out).lim 1 255 rfl
        have hlt := (T.out).1.1
        by_cases hlt2 : k < 255
        · go_wp2_with fail
          refine (palette_any (k + 1) _ T.out (by omega)).mono ?_
          rintro e w4 ⟨rfl, hb4⟩
          have hid2 := Lib.hid (And.intro (hid.out.1.keep hb4) (hid.out.2.trans (hb4.mono hid.out.2.size)))
          have hp := pal_bd (k + 1) (by omega)
          clear hid hb4 T l1 hlt
          go_wp2_with fail
          refine (dis1_any x (pal (k + 1)) _ _ hid2.out.1 y0 y1 hp.1 hp.2).mono ?_
          rintro e w5 ⟨rfl, rfl⟩
          by_cases hc : dst x (pal (k + 1)) < dst x (pal (nearL x k))
          · have hn := Lib.hid (nearL_succ_yes x k hc)
            go_wp2
            go_roundw
            case rel => exact ⟨k + 1, by omega, by go_num, by rw [hn.out]; rfl, by rw [hn.out], hid2⟩
            case measure => simp [intOf]; omega
          · have hn := Lib.hid (nearL_succ_no x k hc)
            go_wp2
            go_roundw
            case rel => exact ⟨k + 1, by omega, by go_num, by rw [hn.out], by rw [hn.out], hid2⟩
            case measure => simp [intOf]; omega
        · obtain rfl : k = 255 := by omega
          go_wp2
          go_ret2
          exact ⟨congrArg _ hf.out, hid.out.2⟩
end Go.Proofs.YtddgigiajenmkaaDoor.Col
