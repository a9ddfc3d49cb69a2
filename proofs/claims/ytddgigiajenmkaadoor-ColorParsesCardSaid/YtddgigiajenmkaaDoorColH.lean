/-
  Contracts of the reference's Rgb, Nearest, digit, Parse of layer 3.
-/
import Derived.Test.YtddgigiajenmkaaDoorColG
namespace Go.Proofs.YtddgigiajenmkaaDoor.Col
open Go.RowKit Utf

set_option maxRecDepth 100000 in
set_option maxHeartbeats 2000000 in
theorem rrgb_any (k n : Int) (w : World) : Calls Tryd.prog 11 #[colV k n] w fun e w' => e = .returned (rgbV k n) ∧ Below w.heap.size w w' := by
  cases ho : okC k n with
  | false =>
    have hf := Lib.hid (rgbV_none k n (by rw [rgbC, ho]; rfl))
    have he := Lib.hid (show errC k n = 130 by rw [errC, ho]; rfl)
    clear ho
    unfold colV
    go_enter Tryd.func11, Tryd.ntmps11
    go_wp2_with fail
    refine (rcheck_any k n _).mono ?_
    rw [he.out]
    rintro e w1 ⟨rfl, hb1⟩
    go_wp2
    go_ret2
    exact ⟨congrArg _ hf.out, (below_box _ _).trans (hb1.mono (by simp))⟩
  | true =>
    have he := Lib.hid (show errC k n = 0 by rw [errC, ho]; rfl)
    rcases ok_cases k n ho with ⟨rfl, rfl⟩ | ⟨rfl, h1, h2⟩ | ⟨rfl, h1, h2⟩
    · have hf := Lib.hid (rgbV_none 0 0 rfl)
      clear ho
      unfold colV
      go_enter Tryd.func11, Tryd.ntmps11
      go_wp2_with fail
      refine (rcheck_any 0 0 _).mono ?_
      rw [he.out]
      rintro e w1 ⟨rfl, hb1⟩
      have c0 := (hb1.cell (p := ⟨w.heap.size, 0, none⟩) (by simp))
      go_wp2
      go_ret2
      exact ⟨congrArg _ hf.out, (below_box _ _).trans (hb1.mono (by simp))⟩
    · obtain ⟨m, rfl⟩ := Int.eq_ofNat_of_zero_le h1
      have hf := Lib.hid (rgbV_some 1 (m : Int) (pal m) (by rw [rgbC, ho, if_pos rfl, if_neg (by omega), if_pos rfl, Int.toNat_natCast]))
      clear ho
      unfold colV
      go_enter Tryd.func11, Tryd.ntmps11
      go_wp2_with fail
      refine (rcheck_any 1 (m : Int) _).mono ?_
      rw [he.out]
      rintro e w1 ⟨rfl, hb1⟩
      have c0 := (hb1.cell (p := ⟨w.heap.size, 0, none⟩) (by simp))
      have c1 := (hb1.cell (p := ⟨w.heap.size, 1, none⟩) (by simp))
      go_wp2_with fail
      have hb2 : Below w.heap.size w w1 := (below_box _ _).trans (hb1.mono (by simp))
      refine (rindex_any m _ (by omega)).mono ?_
      rintro e w2 ⟨rfl, hb3⟩
      go_wp2
      go_ret2
      exact ⟨congrArg _ hf.out, hb2.trans (hb3.mono hb2.size)⟩
    · have hf := Lib.hid (rgbV_some 2 n n (by rw [rgbC, ho, if_pos rfl, if_neg (by omega), if_neg (by omega)]))
      clear ho
      unfold colV
      go_enter Tryd.func11, Tryd.ntmps11
      go_wp2_with fail
      refine (rcheck_any 2 n _).mono ?_
      rw [he.out]
      rintro e w1 ⟨rfl, hb1⟩
      have c0 := (hb1.cell (p := ⟨w.heap.size, 0, none⟩) (by simp))
      have c1 := (hb1.cell (p := ⟨w.heap.size, 1, none⟩) (by simp))
      go_wp2
      go_ret2
      exact ⟨congrArg _ hf.out, (below_box _ _).trans (hb1.mono (by simp))⟩

set_option maxRecDepth 100000 in
set_option maxHeartbeats 2000000 in
theorem rnearest_any (x : Int) (w : World) : Calls Tryd.prog 19 #[.int .i64 x] w fun e w' => e = .returned (nearV x) ∧ Below w.heap.size w w' := by
  by_cases x0 : x < 0
  · have hf := Lib.hid (show Value.tuple #[.int .i64 0, .int .i64 2] = nearV x by rw [nearV, nearC, nearE, if_neg (by omega), if_neg (by omega)])
    go_enter Tryd.func19, Tryd.ntmps19
    go_wp2
    go_ret2
    exact ⟨congrArg _ hf.out, Below.refl _ _⟩
  · by_cases x1 : 16777215 < x
    · have hf := Lib.hid (show Value.tuple #[.int .i64 0, .int .i64 2] = nearV x by rw [nearV, nearC, nearE, if_neg (by omega), if_neg (by omega)])
      have d1 : decide (x > 16777215) = true := decide_eq_true x1
      go_enter Tryd.func19, Tryd.ntmps19
      go_wp2
      go_ret2
      exact ⟨congrArg _ hf.out, Below.refl _ _⟩
    · have hf := Lib.hid (show Value.tuple #[.int .i64 (nearL x 255 : Int), .int .i64 0] = nearV x by rw [nearV, nearC, nearE, if_pos (by omega), if_pos (by omega)])
      have d1 : decide (x > 16777215) = false := decide_eq_false x1
      have y0 : 0 ≤ x := by omega
      have y1 : x ≤ 16777215 := by omega
      go_enter Tryd.func19, Tryd.ntmps19
      go_wp2_with fail
      go_loopw [4, 5] (fun a i wr => ∃ k : Nat, k ≤ 255 ∧ i = .int .i64 (k + 1 : Int) ∧ a = .int .i64 (nearL x k : Int) ∧ Hid (Below w.heap.size w wr)) (fun _ i _ => 256 - (intOf i).toNat)
      case atStart => exact ⟨0, by omega, rfl, rfl, Below.refl _ _⟩
      case round =>
        obtain ⟨k, hk, rfl, rfl, hid⟩ := hrel
        have h0 := hid.out
        clear hid
        by_cases hlt2 : k < 255
        · have hp := pal_bd (k + 1) (by omega)
          have hnl := nearL_le x k
          have hq := pal_bd (nearL x k) (by omega)
          go_wp2_with fail
          refine (rindex_any (k + 1) _ (by omega)).mono ?_
          rintro e w1 ⟨rfl, hb1⟩
          have h1 := h0.trans (hb1.mono h0.size)
          clear hb1 h0
          go_wp2_with fail
          refine (rfar_any (pal (k + 1)) x _ hp.1 hp.2 y0 y1).mono ?_
          rintro e w2 ⟨rfl, rfl⟩
          go_wp2_with fail
          refine (rindex_any (nearL x k) _ (by omega)).mono ?_
          rintro e w3 ⟨rfl, hb3⟩
          have h3 := h1.trans (hb3.mono h1.size)
          clear hb3 h1
          go_wp2_with fail
          refine (rfar_any (pal (nearL x k)) x _ hq.1 hq.2 y0 y1).mono ?_
          rintro e w4 ⟨rfl, rfl⟩
          by_cases hc : dst x (pal (k + 1)) < dst x (pal (nearL x k))
          · have hn := Lib.hid (nearL_succ_yes x k hc)
            go_wp2
            go_roundw
            case rel => exact ⟨k + 1, by omega, by go_num, by rw [hn.out]; rfl, h3⟩
            case measure => simp [intOf]; omega
          · have hn := Lib.hid (nearL_succ_no x k hc)
            go_wp2
            go_roundw
            case rel => exact ⟨k + 1, by omega, by go_num, by rw [hn.out], h3⟩
            case measure => simp [intOf]; omega
        · obtain rfl : k = 255 := by omega
          go_wp2
          go_ret2
          exact ⟨congrArg _ hf.out, h0⟩

/-- what the reference's digit answers -/
def rdig (b : UInt8) : Int := match dig b with | some d => (d : Int) | none => -1
theorem rdig_some (b : UInt8) (d : Nat) (z : Int) (h : dig b = some d) (hz : z = d) : z = rdig b := by rw [rdig, h, hz]
theorem rdig_none (b : UInt8) (h : dig b = none) : -1 = rdig b := by rw [rdig, h]
set_option maxRecDepth 100000 in
set_option maxHeartbeats 2000000 in
theorem rdigit_any (b : UInt8) (w : World) : Calls Tryd.prog 32 #[.int .u8 (b.toNat : Int)] w fun e w' => e = .returned (.int .i64 (rdig b)) ∧ w = w' := by
  have hb : (b.toNat : Int) < 256 := by have := b.toNat_lt; omega
  by_cases h1 : 48 ≤ b.toNat ∧ b.toNat ≤ 57
  · have hf := Lib.hid (rdig_some b (b.toNat - 48) ((b.toNat : Int) - 48) (by rw [dig, if_pos h1]) (by omega))
    have g1 : (48 : Int) ≤ b.toNat := by omega
    have g2 : (b.toNat : Int) ≤ 57 := by omega
    clear h1
    go_enter Tryd.func32, Tryd.ntmps32
    go_wp2
    go_ret
    exact ⟨by rw [← hf.out]; rfl, rfl⟩
  · rcases (show (b.toNat : Int) < 48 ∨ ((48 : Int) ≤ b.toNat ∧ (57 : Int) < b.toNat) by omega) with g1 | ⟨g1, g2⟩
    · have hf := Lib.hid (rdig_none b (by rw [dig, if_neg h1, if_neg (by omega), if_neg (by omega)]))
      have g2 : (b.toNat : Int) < 97 := by omega
      have g3 : (b.toNat : Int) < 65 := by omega
      clear h1
      go_enter Tryd.func32, Tryd.ntmps32
      go_wp2
      go_ret
      exact ⟨by rw [← hf.out]; rfl, rfl⟩
    · by_cases h2 : 97 ≤ b.toNat ∧ b.toNat ≤ 102
      · have hf := Lib.hid (rdig_some b (b.toNat - 97 + 10) ((b.toNat : Int) - 97 + 10) (by rw [dig, if_neg h1, if_pos h2]) (by omega))
        have g3 : (97 : Int) ≤ b.toNat := by omega
        have g4 : (b.toNat : Int) ≤ 102 := by omega
        clear h1 h2
        go_enter Tryd.func32, Tryd.ntmps32
        go_wp2
        go_ret
        exact ⟨by rw [← hf.out]; rfl, rfl⟩
      · by_cases h3 : 65 ≤ b.toNat ∧ b.toNat ≤ 70
        · have hf := Lib.hid (rdig_some b (b.toNat - 65 + 10) ((b.toNat : Int) - 65 + 10) (by rw [dig, if_neg h1, if_neg h2, if_pos h3]) (by omega))
          have g3 : (b.toNat : Int) < 97 := by omega
          have g4 : (65 : Int) ≤ b.toNat := by omega
          have g5 : (b.toNat : Int) ≤ 70 := by omega
          clear h1 h2 h3
          go_enter Tryd.func32, Tryd.ntmps32
          go_wp2
          go_ret
          exact ⟨by rw [← hf.out]; rfl, rfl⟩
        · have hf := Lib.hid (rdig_none b (by rw [dig, if_neg h1, if_neg h2, if_neg h3]))
          rcases (show (b.toNat : Int) < 65 ∨ ((65 : Int) ≤ b.toNat ∧ (70 : Int) < b.toNat ∧ (b.toNat : Int) < 97) ∨ ((97 : Int) ≤ b.toNat ∧ (102 : Int) < b.toNat) by omega) with g3 | ⟨g3, g4, g5⟩ | ⟨g3, g4⟩
          · clear h1 h2 h3
            have g4 : (b.toNat : Int) < 97 := by omega
            go_enter Tryd.func32, Tryd.ntmps32
            go_wp2
            go_ret
            exact ⟨by rw [← hf.out]; rfl, rfl⟩
          · clear h1 h2 h3
            go_enter Tryd.func32, Tryd.ntmps32
            go_wp2
            go_ret
            exact ⟨by rw [← hf.out]; rfl, rfl⟩
          · clear h1 h2 h3
            have g5 : (65 : Int) ≤ b.toNat := by omega
            have g6 : (70 : Int) < b.toNat := by omega
            go_enter Tryd.func32, Tryd.ntmps32
            go_wp2
            go_ret
            exact ⟨by rw [← hf.out]; rfl, rfl⟩
end Go.Proofs.YtddgigiajenmkaaDoor.Col
