/-
  The walk of the law ColorBest: it returns true, whatever its arguments; nothing that lay before the call has turned.
-/
import Derived.Test.YtddgigiajenmkaaDoorColK
namespace Go.Proofs.YtddgigiajenmkaaDoor.Col
open Go.RowKit Utf

theorem mod24c (n : Int) : ∃ x : Nat, x ≤ 16777215 ∧ n % 16777216 = (x : Int) := ⟨(n % 16777216).toNat, by omega, by omega⟩
theorem rgbC_pal (i : Nat) (h : i < 256) : rgbC 1 (i : Int) = some (pal i) := by
  have ho : okC 1 (i : Int) = true := by simp [okC]; omega
  rw [rgbC, ho, if_pos rfl, if_neg (by omega), if_pos rfl, Int.toNat_natCast]
theorem nearC_in (x : Int) (h0 : 0 ≤ x) (h1 : x ≤ 16777215) : nearC x = (nearL x 255 : Int) ∧ nearE x = 0 := by
  rw [nearC, nearE, if_pos ⟨h0, h1⟩, if_pos ⟨h0, h1⟩]; exact ⟨rfl, rfl⟩
set_option maxRecDepth 100000 in
set_option maxHeartbeats 8000000 in
theorem best_any (n : Int) (ib : UInt8) (w : World) (h : Tc w) (n0 : 0 ≤ n) (n1 : n ≤ 4294967295) : Calls Tryd.prog 6 #[.int .u32 n, .int .u8 (ib.toNat : Int)] w fun e w' => e = .returned (.bool true) ∧ Below w.heap.size w w' := by
  have H := Lib.hid h; clear h
  have h0 : Below w.heap.size w w := Below.refl _ _
  obtain ⟨x, hx, hnx⟩ := mod24c n
  have x0 : (0 : Int) ≤ (x : Int) := by omega
  have x1 : (x : Int) ≤ 16777215 := by omega
  obtain ⟨N1, N2⟩ := nearC_in (x : Int) x0 x1
  have NB := Lib.hid (nearL_best (x : Int) 255)
  have hk := nearL_le (x : Int) 255
  generalize nearL (x : Int) 255 = k at N1 NB hk
  have HN1 := Lib.hid N1; clear N1
  have HN2 := Lib.hid N2; clear N2
  have RK := Lib.hid (rgbC_pal k (by omega))
  have pk := pal_bd k (by omega)
  have k255 : (k : Int) ≤ 255 := by omega
  have i255 : ib.toNat < 256 := ib.toNat_lt
  have I255 : (ib.toNat : Int) < 256 := by omega
  go_enter Tryd.func6, Tryd.ntmps6
  go_wp2_with fail
  refine (works_any _ ((H.out).keep h0)).mono ?_
  rintro e w1 ⟨rfl, hb1⟩
  have h1 := h0.trans (hb1.mono h0.size)
  clear hb1 h0
  go_wp2_with fail
  rw [hnx]
  clear hnx
  refine (nearest_is (x : Int) (k : Int) 0 HN1.out HN2.out _ ((H.out).keep h1)).mono ?_
  rintro e w2 ⟨rfl, hb2⟩
  have h2 := h1.trans (hb2.mono h1.size)
  clear hb2 h1
  go_wp2_with fail
  refine (index_any _ _).mono ?_
  rintro e w3 ⟨rfl, hb3⟩
  have h3 := h2.trans (hb3.mono h2.size)
  clear hb3 h2
  go_wp2_with fail
  refine (rgb_is 1 (k : Int) (pal k) RK.out _ ((H.out).keep h3)).mono ?_
  rintro e w4 ⟨rfl, hb4⟩
  have h4 := h3.trans (hb4.mono h3.size)
  clear hb4 h3
  have h4' := Lib.hid h4
  go_wp2_with fail
  go_loopw [10] (fun i wr => ∃ j : Nat, j ≤ 256 ∧ i = .int .i64 j ∧ Hid (Below w.heap.size w wr)) (fun i _ => 256 - (intOf i).toNat)
  case atStart => exact ⟨0, by omega, rfl, h4'⟩
  case round =>
    clear h4 h4'
    obtain ⟨j, hj, rfl, hid⟩ := hrel
    have h0 := hid.out
    clear hid
    by_cases hj2 : j < 256
    · have RJ := Lib.hid (rgbC_pal j hj2)
      have pj := pal_bd j hj2
      obtain ⟨b1, b2⟩ := NB.out j (by omega)
      rw [dst_comm (x : Int), dst_comm (x : Int)] at b1
      have hlt : decide (dst (pal j) x < dst (pal k) x) = false := decide_eq_false (by omega)
      by_cases hjk : j < k
      · have b3 := b2 hjk
        rw [dst_comm (x : Int), dst_comm (x : Int)] at b3
        have heq : (dst (pal j) x == dst (pal k) x) = false := by rw [beq_eq_false_iff_ne]; omega
        have hjk' : (j : Int) < (k : Int) := by omega
        clear b1 b2 b3
        go_wp2_with fail
        refine (index_any _ _).mono ?_
        rintro e w5 ⟨rfl, hb5⟩
        have h5 := h0.trans (hb5.mono h0.size)
        clear hb5 h0
        go_wp2_with fail
        refine (rgb_is 1 (j : Int) (pal j) RJ.out _ ((H.out).keep h5)).mono ?_
        rintro e w6 ⟨rfl, hb6⟩
        have h6 := h5.trans (hb6.mono h5.size)
        clear hb6 h5
        go_wp2_with fail
        refine (far_any (pal j) x _ pj.1 pj.2 x0 x1).mono ?_
        rintro e w7 ⟨rfl, rfl⟩
        go_wp2_with fail
        refine (far_any (pal k) x _ pk.1 pk.2 x0 x1).mono ?_
        rintro e w7 ⟨rfl, rfl⟩
        go_wp2_with fail
        refine (far_any (pal j) x _ pj.1 pj.2 x0 x1).mono ?_
        rintro e w7 ⟨rfl, rfl⟩
        go_wp2_with fail
        refine (far_any (pal k) x _ pk.1 pk.2 x0 x1).mono ?_
        rintro e w7 ⟨rfl, rfl⟩
        go_wp2
        go_roundw
        case rel => exact ⟨j + 1, by omega, by go_num, h6⟩
        case measure => simp [intOf]; omega
      · have hjk' : (k : Int) ≤ (j : Int) := by omega
        have hjk2 : k ≤ j := by omega
        clear b1 b2
        go_wp2_with fail
        refine (index_any _ _).mono ?_
        rintro e w5 ⟨rfl, hb5⟩
        have h5 := h0.trans (hb5.mono h0.size)
        clear hb5 h0
        go_wp2_with fail
        refine (rgb_is 1 (j : Int) (pal j) RJ.out _ ((H.out).keep h5)).mono ?_
        rintro e w6 ⟨rfl, hb6⟩
        have h6 := h5.trans (hb6.mono h5.size)
        clear hb6 h5
        go_wp2_with fail
        refine (far_any (pal j) x _ pj.1 pj.2 x0 x1).mono ?_
        rintro e w7 ⟨rfl, rfl⟩
        go_wp2_with fail
        refine (far_any (pal k) x _ pk.1 pk.2 x0 x1).mono ?_
        rintro e w7 ⟨rfl, rfl⟩
        go_wp2
        go_roundw
        case rel => exact ⟨j + 1, by omega, by go_num, h6⟩
        case measure => simp [intOf]; omega
    · obtain rfl : j = 256 := by omega
      have RI := Lib.hid (rgbC_pal ib.toNat i255)
      obtain ⟨m1, m2⟩ := near_own ib.toNat i255
      have pi := pal_bd ib.toNat i255
      obtain ⟨M1, M2⟩ := nearC_in (pal ib.toNat) pi.1 pi.2
      generalize nearL (pal ib.toNat) 255 = m at m1 m2 M1
      have RM := Lib.hid (rgbC_pal m (by omega))
      rw [m2] at RM
      have HM1 := Lib.hid M1; clear M1
      have HM2 := Lib.hid M2; clear M2
      have m1' : (m : Int) ≤ (ib.toNat : Int) := by omega
      clear m2
      rw [show (((256 : Nat)) : Int) = 256 from rfl]
      go_wp2_with fail
      refine (index_any _ _).mono ?_
      rintro e w5 ⟨rfl, hb5⟩
      have h5 := h0.trans (hb5.mono h0.size)
      clear hb5 h0
      go_wp2_with fail
      refine (rgb_is 1 (ib.toNat : Int) (pal ib.toNat) RI.out _ ((H.out).keep h5)).mono ?_
      rintro e w6 ⟨rfl, hb6⟩
      have h6 := h5.trans (hb6.mono h5.size)
      clear hb6 h5
      go_wp2_with fail
      refine (nearest_is (pal ib.toNat) (m : Int) 0 HM1.out HM2.out _ ((H.out).keep h6)).mono ?_
      rintro e w7 ⟨rfl, hb7⟩
      have h7 := h6.trans (hb7.mono h6.size)
      clear hb7 h6
      go_wp2_with fail
      refine (index_any _ _).mono ?_
      rintro e w8 ⟨rfl, hb8⟩
      have h8 := h7.trans (hb8.mono h7.size)
      clear hb8 h7
      go_wp2_with fail
      refine (shows_yes 1 (m : Int) (pal ib.toNat) RM.out _ ((H.out).keep h8)).mono ?_
      rintro e w9 ⟨rfl, hb9⟩
      have h9 := h8.trans (hb9.mono h8.size)
      clear hb9 h8
      go_wp2
      go_ret
      exact ⟨rfl, h9⟩
end Go.Proofs.YtddgigiajenmkaaDoor.Col
