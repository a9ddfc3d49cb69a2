/-
  The walk of the law ColorCube: it returns true, whatever its arguments; nothing that lay before the call has turned.
-/
import Derived.Test.YtddgigiajenmkaaDoorColF
namespace Go.Proofs.YtddgigiajenmkaaDoor.Col
open Go.RowKit Utf

theorem rgbC_ix (n : Nat) (h : n < 256) : rgbC 1 (n : Int) = some (pal n) := by
  have ho : okC 1 (n : Int) = true := by simp [okC]; omega
  rw [rgbC, ho, if_pos rfl, if_neg (by omega), if_pos rfl, Int.toNat_natCast]
theorem errC_ix (n : Nat) (h : n < 256) : errC 1 (n : Int) = 0 := errC_ok 1 n (by omega)
/-- the components of the cube and of the gray ramp -/
theorem pal_cube (m : Nat) (h : m < 216) : pal (m + 16) / 65536 = lev (m / 36) ∧ pal (m + 16) / 256 % 256 = lev (m / 6 % 6) ∧ pal (m + 16) % 256 = lev (m % 6) := by
  have : ∀ m : Fin 216, pal (m.val + 16) / 65536 = lev (m.val / 36) ∧ pal (m.val + 16) / 256 % 256 = lev (m.val / 6 % 6) ∧ pal (m.val + 16) % 256 = lev (m.val % 6) := by decide +kernel
  exact this ⟨m, h⟩
theorem pal_gray (m : Nat) (h : m < 24) : pal (m + 232) / 65536 = 8 + 10 * (m : Int) ∧ pal (m + 232) / 256 % 256 = 8 + 10 * (m : Int) ∧ pal (m + 232) % 256 = 8 + 10 * (m : Int) := by
  have : ∀ m : Fin 24, pal (m.val + 232) / 65536 = 8 + 10 * (m.val : Int) ∧ pal (m.val + 232) / 256 % 256 = 8 + 10 * (m.val : Int) ∧ pal (m.val + 232) % 256 = 8 + 10 * (m.val : Int) := by decide +kernel
  exact this ⟨m, h⟩
theorem lev_mono (i j : Nat) (hi : i < 6) (hj : j < 6) : decide (lev i < lev j) = decide ((i : Int) < (j : Int)) := by
  have : ∀ i j : Fin 6, decide (lev i.val < lev j.val) = decide ((i.val : Int) < (j.val : Int)) := by decide +kernel
  exact this ⟨i, hi⟩ ⟨j, hj⟩
theorem gray_mono (a b : Nat) (ha : 232 ≤ a) (hb : 232 ≤ b) (h : a < b) : pal a < pal b := by
  rw [pal_hi a ha, pal_hi b hb]; omega
theorem gray_mono' (a b : Nat) (ha : 232 ≤ a) (hb : 232 ≤ b) (h : b ≤ a) : pal b ≤ pal a := by
  rw [pal_hi a ha, pal_hi b hb]; omega

set_option maxRecDepth 100000 in
set_option maxHeartbeats 8000000 in
theorem cube_lo (a b : UInt8) (w : World) (h : Tc w) (a16 : (a.toNat : Int) < 16) : Calls Tryd.prog 8 #[.int .u8 (a.toNat : Int), .int .u8 (b.toNat : Int)] w fun e w' => e = .returned (.bool true) ∧ Below w.heap.size w w' := by
  have H := Lib.hid h; clear h
  have h0 : Below w.heap.size w w := Below.refl _ _
  have a255 : a.toNat < 256 := a.toNat_lt
  have b255 : b.toNat < 256 := b.toNat_lt
  have A255 : (a.toNat : Int) < 256 := by omega
  have B255 : (b.toNat : Int) < 256 := by omega
  have Ra := Lib.hid (rgbC_ix a.toNat a255)
  have Rb := Lib.hid (rgbC_ix b.toNat b255)
  have Ea := Lib.hid (errC_ix a.toNat a255)
  have Eb := Lib.hid (errC_no 1 (256 + (a.toNat : Int)) (by omega))
  have Ec := Lib.hid (errC_no 1 (-1 - (b.toNat : Int)) (by omega))
  have px := pal_bd a.toNat a255
  have py := pal_bd b.toNat b255
  have ax := and255' (pal a.toNat) px.1 (by omega)
  have ay := and255' (pal b.toNat) py.1 (by omega)
  have gx := and255' (pal a.toNat / 256) (by omega) (by omega)
  have gy := and255' (pal b.toNat / 256) (by omega) (by omega)
  generalize pal a.toNat = x at *
  generalize pal b.toNat = y at *
  have a232 : (a.toNat : Int) < 232 := by omega
  go_enter Tryd.func8, Tryd.ntmps8
  go_wp2_with fail
  refine (works_any _ ((H.out).keep h0)).mono ?_
  rintro e w1 ⟨rfl, hb1⟩
  have h1 := h0.trans (hb1.mono h0.size)
  clear hb1 h0
  go_wp2_with fail
  refine (index_any _ _).mono ?_
  rintro e w2 ⟨rfl, hb2⟩
  have h2 := h1.trans (hb2.mono h1.size)
  clear hb2 h1
  go_wp2_with fail
  refine (rgb_is 1 (a.toNat : Int) x Ra.out _ ((H.out).keep h2)).mono ?_
  rintro e w3 ⟨rfl, hb3⟩
  have h3 := h2.trans (hb3.mono h2.size)
  clear hb3 h2
  go_wp2_with fail
  refine (index_any _ _).mono ?_
  rintro e w4 ⟨rfl, hb4⟩
  have h4 := h3.trans (hb4.mono h3.size)
  clear hb4 h3
  go_wp2_with fail
  refine (rgb_is 1 (b.toNat : Int) y Rb.out _ ((H.out).keep h4)).mono ?_
  rintro e w5 ⟨rfl, hb5⟩
  have h5 := h4.trans (hb5.mono h4.size)
  clear hb5 h4
  go_wp2_with fail
  refine (index_any _ _).mono ?_
  rintro e w6 ⟨rfl, hb6⟩
  have h6 := h5.trans (hb6.mono h5.size)
  clear hb6 h5
  go_wp2_with fail
  refine (check_is 1 (a.toNat : Int) 0 Ea.out _ ((H.out).keep h6)).mono ?_
  rintro e w7 ⟨rfl, hb7⟩
  have h7 := h6.trans (hb7.mono h6.size)
  clear hb7 h6
  go_wp2_with fail
  refine (index_any _ _).mono ?_
  rintro e w8 ⟨rfl, hb8⟩
  have h8 := h7.trans (hb8.mono h7.size)
  clear hb8 h7
  go_wp2_with fail
  refine (check_is 1 (256 + (a.toNat : Int)) 130 Eb.out _ ((H.out).keep h8)).mono ?_
  rintro e w9 ⟨rfl, hb9⟩
  have h9 := h8.trans (hb9.mono h8.size)
  clear hb9 h8
  go_wp2_with fail
  refine (index_any _ _).mono ?_
  rintro e w10 ⟨rfl, hb10⟩
  have h10 := h9.trans (hb10.mono h9.size)
  clear hb10 h9
  go_wp2_with fail
  refine (check_is 1 (-1 - (b.toNat : Int)) 130 Ec.out _ ((H.out).keep h10)).mono ?_
  rintro e w11 ⟨rfl, hb11⟩
  have h11 := h10.trans (hb11.mono h10.size)
  clear hb11 h10
  go_wp2
  go_ret
  exact ⟨rfl, h11⟩
set_option maxRecDepth 100000 in
set_option maxHeartbeats 8000000 in
theorem cube_gg (a b : UInt8) (w : World) (h : Tc w) (a232 : (232 : Int) ≤ a.toNat) (b232 : (232 : Int) ≤ b.toNat) (hab : (a.toNat : Int) < b.toNat) : Calls Tryd.prog 8 #[.int .u8 (a.toNat : Int), .int .u8 (b.toNat : Int)] w fun e w' => e = .returned (.bool true) ∧ Below w.heap.size w w' := by
  have H := Lib.hid h; clear h
  have h0 : Below w.heap.size w w := Below.refl _ _
  have a255 : a.toNat < 256 := a.toNat_lt
  have b255 : b.toNat < 256 := b.toNat_lt
  have A255 : (a.toNat : Int) < 256 := by omega
  have B255 : (b.toNat : Int) < 256 := by omega
  have Ra := Lib.hid (rgbC_ix a.toNat a255)
  have Rb := Lib.hid (rgbC_ix b.toNat b255)
  have Ea := Lib.hid (errC_ix a.toNat a255)
  have Eb := Lib.hid (errC_no 1 (256 + (a.toNat : Int)) (by omega))
  have Ec := Lib.hid (errC_no 1 (-1 - (b.toNat : Int)) (by omega))
  have px := pal_bd a.toNat a255
  have py := pal_bd b.toNat b255
  have ax := and255' (pal a.toNat) px.1 (by omega)
  have ay := and255' (pal b.toNat) py.1 (by omega)
  have gx := and255' (pal a.toNat / 256) (by omega) (by omega)
  have gy := and255' (pal b.toNat / 256) (by omega) (by omega)
  obtain ⟨m, hm⟩ : ∃ m, a.toNat = m + 232 := ⟨a.toNat - 232, by omega⟩
  have hg := pal_gray m (by omega)
  rw [← hm] at hg
  have a16 : (16 : Int) ≤ a.toNat := by omega
  have hxy := gray_mono a.toNat b.toNat (by omega) (by omega) (by omega)
  generalize pal a.toNat = x at *
  generalize pal b.toNat = y at *
  rw [hg.2.2] at ax
  rw [hg.2.1] at gx
  have hr := hg.1
  clear hg hm
  generalize 8 + 10 * (m : Int) = L at *
  go_enter Tryd.func8, Tryd.ntmps8
  go_wp2_with fail
  refine (works_any _ ((H.out).keep h0)).mono ?_
  rintro e w1 ⟨rfl, hb1⟩
  have h1 := h0.trans (hb1.mono h0.size)
  clear hb1 h0
  go_wp2_with fail
  refine (index_any _ _).mono ?_
  rintro e w2 ⟨rfl, hb2⟩
  have h2 := h1.trans (hb2.mono h1.size)
  clear hb2 h1
  go_wp2_with fail
  refine (rgb_is 1 (a.toNat : Int) x Ra.out _ ((H.out).keep h2)).mono ?_
  rintro e w3 ⟨rfl, hb3⟩
  have h3 := h2.trans (hb3.mono h2.size)
  clear hb3 h2
  go_wp2_with fail
  refine (index_any _ _).mono ?_
  rintro e w4 ⟨rfl, hb4⟩
  have h4 := h3.trans (hb4.mono h3.size)
  clear hb4 h3
  go_wp2_with fail
  refine (rgb_is 1 (b.toNat : Int) y Rb.out _ ((H.out).keep h4)).mono ?_
  rintro e w5 ⟨rfl, hb5⟩
  have h5 := h4.trans (hb5.mono h4.size)
  clear hb5 h4
  go_wp2_with fail
  refine (index_any _ _).mono ?_
  rintro e w6 ⟨rfl, hb6⟩
  have h6 := h5.trans (hb6.mono h5.size)
  clear hb6 h5
  go_wp2_with fail
  refine (check_is 1 (a.toNat : Int) 0 Ea.out _ ((H.out).keep h6)).mono ?_
  rintro e w7 ⟨rfl, hb7⟩
  have h7 := h6.trans (hb7.mono h6.size)
  clear hb7 h6
  go_wp2_with fail
  refine (index_any _ _).mono ?_
  rintro e w8 ⟨rfl, hb8⟩
  have h8 := h7.trans (hb8.mono h7.size)
  clear hb8 h7
  go_wp2_with fail
  refine (check_is 1 (256 + (a.toNat : Int)) 130 Eb.out _ ((H.out).keep h8)).mono ?_
  rintro e w9 ⟨rfl, hb9⟩
  have h9 := h8.trans (hb9.mono h8.size)
  clear hb9 h8
  go_wp2_with fail
  refine (index_any _ _).mono ?_
  rintro e w10 ⟨rfl, hb10⟩
  have h10 := h9.trans (hb10.mono h9.size)
  clear hb10 h9
  go_wp2_with fail
  refine (check_is 1 (-1 - (b.toNat : Int)) 130 Ec.out _ ((H.out).keep h10)).mono ?_
  rintro e w11 ⟨rfl, hb11⟩
  have h11 := h10.trans (hb11.mono h10.size)
  clear hb11 h10
  go_wp2
  go_ret
  exact ⟨rfl, h11⟩
set_option maxRecDepth 100000 in
set_option maxHeartbeats 8000000 in
theorem cube_ggn (a b : UInt8) (w : World) (h : Tc w) (a232 : (232 : Int) ≤ a.toNat) (b232 : (232 : Int) ≤ b.toNat) (hab : (b.toNat : Int) ≤ a.toNat) : Calls Tryd.prog 8 #[.int .u8 (a.toNat : Int), .int .u8 (b.toNat : Int)] w fun e w' => e = .returned (.bool true) ∧ Below w.heap.size w w' := by
  have H := Lib.hid h; clear h
  have h0 : Below w.heap.size w w := Below.refl _ _
  have a255 : a.toNat < 256 := a.toNat_lt
  have b255 : b.toNat < 256 := b.toNat_lt
  have A255 : (a.toNat : Int) < 256 := by omega
  have B255 : (b.toNat : Int) < 256 := by omega
  have Ra := Lib.hid (rgbC_ix a.toNat a255)
  have Rb := Lib.hid (rgbC_ix b.toNat b255)
  have Ea := Lib.hid (errC_ix a.toNat a255)
  have Eb := Lib.hid (errC_no 1 (256 + (a.toNat : Int)) (by omega))
  have Ec := Lib.hid (errC_no 1 (-1 - (b.toNat : Int)) (by omega))
  have px := pal_bd a.toNat a255
  have py := pal_bd b.toNat b255
  have ax := and255' (pal a.toNat) px.1 (by omega)
  have ay := and255' (pal b.toNat) py.1 (by omega)
  have gx := and255' (pal a.toNat / 256) (by omega) (by omega)
  have gy := and255' (pal b.toNat / 256) (by omega) (by omega)
  obtain ⟨m, hm⟩ : ∃ m, a.toNat = m + 232 := ⟨a.toNat - 232, by omega⟩
  have hg := pal_gray m (by omega)
  rw [← hm] at hg
  have a16 : (16 : Int) ≤ a.toNat := by omega
  have hxy := gray_mono' a.toNat b.toNat (by omega) (by omega) (by omega)
  generalize pal a.toNat = x at *
  generalize pal b.toNat = y at *
  rw [hg.2.2] at ax
  rw [hg.2.1] at gx
  have hr := hg.1
  clear hg hm
  generalize 8 + 10 * (m : Int) = L at *
  have d1 : decide ((a.toNat : Int) < (b.toNat : Int)) = false := decide_eq_false (by omega)
  have d2 : decide (x < y) = false := decide_eq_false (by omega)
  have d3 : decide (a.toNat < b.toNat) = false := decide_eq_false (by omega)
  have nab : ¬ a.toNat < b.toNat := by omega
  go_enter Tryd.func8, Tryd.ntmps8
  go_wp2_with fail
  refine (works_any _ ((H.out).keep h0)).mono ?_
  rintro e w1 ⟨rfl, hb1⟩
  have h1 := h0.trans (hb1.mono h0.size)
  clear hb1 h0
  go_wp2_with fail
  refine (index_any _ _).mono ?_
  rintro e w2 ⟨rfl, hb2⟩
  have h2 := h1.trans (hb2.mono h1.size)
  clear hb2 h1
  go_wp2_with fail
  refine (rgb_is 1 (a.toNat : Int) x Ra.out _ ((H.out).keep h2)).mono ?_
  rintro e w3 ⟨rfl, hb3⟩
  have h3 := h2.trans (hb3.mono h2.size)
  clear hb3 h2
  go_wp2_with fail
  refine (index_any _ _).mono ?_
  rintro e w4 ⟨rfl, hb4⟩
  have h4 := h3.trans (hb4.mono h3.size)
  clear hb4 h3
  go_wp2_with fail
  refine (rgb_is 1 (b.toNat : Int) y Rb.out _ ((H.out).keep h4)).mono ?_
  rintro e w5 ⟨rfl, hb5⟩
  have h5 := h4.trans (hb5.mono h4.size)
  clear hb5 h4
  go_wp2_with fail
  refine (index_any _ _).mono ?_
  rintro e w6 ⟨rfl, hb6⟩
  have h6 := h5.trans (hb6.mono h5.size)
  clear hb6 h5
  go_wp2_with fail
  refine (check_is 1 (a.toNat : Int) 0 Ea.out _ ((H.out).keep h6)).mono ?_
  rintro e w7 ⟨rfl, hb7⟩
  have h7 := h6.trans (hb7.mono h6.size)
  clear hb7 h6
  go_wp2_with fail
  refine (index_any _ _).mono ?_
  rintro e w8 ⟨rfl, hb8⟩
  have h8 := h7.trans (hb8.mono h7.size)
  clear hb8 h7
  go_wp2_with fail
  refine (check_is 1 (256 + (a.toNat : Int)) 130 Eb.out _ ((H.out).keep h8)).mono ?_
  rintro e w9 ⟨rfl, hb9⟩
  have h9 := h8.trans (hb9.mono h8.size)
  clear hb9 h8
  go_wp2_with fail
  refine (index_any _ _).mono ?_
  rintro e w10 ⟨rfl, hb10⟩
  have h10 := h9.trans (hb10.mono h9.size)
  clear hb10 h9
  go_wp2_with fail
  refine (check_is 1 (-1 - (b.toNat : Int)) 130 Ec.out _ ((H.out).keep h10)).mono ?_
  rintro e w11 ⟨rfl, hb11⟩
  have h11 := h10.trans (hb11.mono h10.size)
  clear hb11 h10
  go_wp2
  go_ret
  exact ⟨rfl, h11⟩
set_option maxRecDepth 100000 in
set_option maxHeartbeats 8000000 in
theorem cube_g (a b : UInt8) (w : World) (h : Tc w) (a232 : (232 : Int) ≤ a.toNat) (b232 : (b.toNat : Int) < 232) : Calls Tryd.prog 8 #[.int .u8 (a.toNat : Int), .int .u8 (b.toNat : Int)] w fun e w' => e = .returned (.bool true) ∧ Below w.heap.size w w' := by
  have H := Lib.hid h; clear h
  have h0 : Below w.heap.size w w := Below.refl _ _
  have a255 : a.toNat < 256 := a.toNat_lt
  have b255 : b.toNat < 256 := b.toNat_lt
  have A255 : (a.toNat : Int) < 256 := by omega
  have B255 : (b.toNat : Int) < 256 := by omega
  have Ra := Lib.hid (rgbC_ix a.toNat a255)
  have Rb := Lib.hid (rgbC_ix b.toNat b255)
  have Ea := Lib.hid (errC_ix a.toNat a255)
  have Eb := Lib.hid (errC_no 1 (256 + (a.toNat : Int)) (by omega))
  have Ec := Lib.hid (errC_no 1 (-1 - (b.toNat : Int)) (by omega))
  have px := pal_bd a.toNat a255
  have py := pal_bd b.toNat b255
  have ax := and255' (pal a.toNat) px.1 (by omega)
  have ay := and255' (pal b.toNat) py.1 (by omega)
  have gx := and255' (pal a.toNat / 256) (by omega) (by omega)
  have gy := and255' (pal b.toNat / 256) (by omega) (by omega)
  obtain ⟨m, hm⟩ : ∃ m, a.toNat = m + 232 := ⟨a.toNat - 232, by omega⟩
  have hg := pal_gray m (by omega)
  rw [← hm] at hg
  have a16 : (16 : Int) ≤ a.toNat := by omega
  generalize pal a.toNat = x at *
  generalize pal b.toNat = y at *
  rw [hg.2.2] at ax
  rw [hg.2.1] at gx
  have hr := hg.1
  clear hg hm
  generalize 8 + 10 * (m : Int) = L at *
  go_enter Tryd.func8, Tryd.ntmps8
  go_wp2_with fail
  refine (works_any _ ((H.out).keep h0)).mono ?_
  rintro e w1 ⟨rfl, hb1⟩
  have h1 := h0.trans (hb1.mono h0.size)
  clear hb1 h0
  go_wp2_with fail
  refine (index_any _ _).mono ?_
  rintro e w2 ⟨rfl, hb2⟩
  have h2 := h1.trans (hb2.mono h1.size)
  clear hb2 h1
  go_wp2_with fail
  refine (rgb_is 1 (a.toNat : Int) x Ra.out _ ((H.out).keep h2)).mono ?_
  rintro e w3 ⟨rfl, hb3⟩
  have h3 := h2.trans (hb3.mono h2.size)
  clear hb3 h2
  go_wp2_with fail
  refine (index_any _ _).mono ?_
  rintro e w4 ⟨rfl, hb4⟩
  have h4 := h3.trans (hb4.mono h3.size)
  clear hb4 h3
  go_wp2_with fail
  refine (rgb_is 1 (b.toNat : Int) y Rb.out _ ((H.out).keep h4)).mono ?_
  rintro e w5 ⟨rfl, hb5⟩
  have h5 := h4.trans (hb5.mono h4.size)
  clear hb5 h4
  go_wp2_with fail
  refine (index_any _ _).mono ?_
  rintro e w6 ⟨rfl, hb6⟩
  have h6 := h5.trans (hb6.mono h5.size)
  clear hb6 h5
  go_wp2_with fail
  refine (check_is 1 (a.toNat : Int) 0 Ea.out _ ((H.out).keep h6)).mono ?_
  rintro e w7 ⟨rfl, hb7⟩
  have h7 := h6.trans (hb7.mono h6.size)
  clear hb7 h6
  go_wp2_with fail
  refine (index_any _ _).mono ?_
  rintro e w8 ⟨rfl, hb8⟩
  have h8 := h7.trans (hb8.mono h7.size)
  clear hb8 h7
  go_wp2_with fail
  refine (check_is 1 (256 + (a.toNat : Int)) 130 Eb.out _ ((H.out).keep h8)).mono ?_
  rintro e w9 ⟨rfl, hb9⟩
  have h9 := h8.trans (hb9.mono h8.size)
  clear hb9 h8
  go_wp2_with fail
  refine (index_any _ _).mono ?_
  rintro e w10 ⟨rfl, hb10⟩
  have h10 := h9.trans (hb10.mono h9.size)
  clear hb10 h9
  go_wp2_with fail
  refine (check_is 1 (-1 - (b.toNat : Int)) 130 Ec.out _ ((H.out).keep h10)).mono ?_
  rintro e w11 ⟨rfl, hb11⟩
  have h11 := h10.trans (hb11.mono h10.size)
  clear hb11 h10
  go_wp2
  go_ret
  exact ⟨rfl, h11⟩
set_option maxRecDepth 100000 in
set_option maxHeartbeats 8000000 in
theorem cube_ml (a b : UInt8) (w : World) (h : Tc w) (a16 : (16 : Int) ≤ a.toNat) (a232 : (a.toNat : Int) < 232) (b16 : (b.toNat : Int) < 16) : Calls Tryd.prog 8 #[.int .u8 (a.toNat : Int), .int .u8 (b.toNat : Int)] w fun e w' => e = .returned (.bool true) ∧ Below w.heap.size w w' := by
  have H := Lib.hid h; clear h
  have h0 : Below w.heap.size w w := Below.refl _ _
  have a255 : a.toNat < 256 := a.toNat_lt
  have b255 : b.toNat < 256 := b.toNat_lt
  have A255 : (a.toNat : Int) < 256 := by omega
  have B255 : (b.toNat : Int) < 256 := by omega
  have Ra := Lib.hid (rgbC_ix a.toNat a255)
  have Rb := Lib.hid (rgbC_ix b.toNat b255)
  have Ea := Lib.hid (errC_ix a.toNat a255)
  have Eb := Lib.hid (errC_no 1 (256 + (a.toNat : Int)) (by omega))
  have Ec := Lib.hid (errC_no 1 (-1 - (b.toNat : Int)) (by omega))
  have px := pal_bd a.toNat a255
  have py := pal_bd b.toNat b255
  have ax := and255' (pal a.toNat) px.1 (by omega)
  have ay := and255' (pal b.toNat) py.1 (by omega)
  have gx := and255' (pal a.toNat / 256) (by omega) (by omega)
  have gy := and255' (pal b.toNat / 256) (by omega) (by omega)
  generalize pal a.toNat = x at *
  generalize pal b.toNat = y at *
  have b232 : (b.toNat : Int) < 232 := by omega
  go_enter Tryd.func8, Tryd.ntmps8
  go_wp2_with fail
  refine (works_any _ ((H.out).keep h0)).mono ?_
  rintro e w1 ⟨rfl, hb1⟩
  have h1 := h0.trans (hb1.mono h0.size)
  clear hb1 h0
  go_wp2_with fail
  refine (index_any _ _).mono ?_
  rintro e w2 ⟨rfl, hb2⟩
  have h2 := h1.trans (hb2.mono h1.size)
  clear hb2 h1
  go_wp2_with fail
  refine (rgb_is 1 (a.toNat : Int) x Ra.out _ ((H.out).keep h2)).mono ?_
  rintro e w3 ⟨rfl, hb3⟩
  have h3 := h2.trans (hb3.mono h2.size)
  clear hb3 h2
  go_wp2_with fail
  refine (index_any _ _).mono ?_
  rintro e w4 ⟨rfl, hb4⟩
  have h4 := h3.trans (hb4.mono h3.size)
  clear hb4 h3
  go_wp2_with fail
  refine (rgb_is 1 (b.toNat : Int) y Rb.out _ ((H.out).keep h4)).mono ?_
  rintro e w5 ⟨rfl, hb5⟩
  have h5 := h4.trans (hb5.mono h4.size)
  clear hb5 h4
  go_wp2_with fail
  refine (index_any _ _).mono ?_
  rintro e w6 ⟨rfl, hb6⟩
  have h6 := h5.trans (hb6.mono h5.size)
  clear hb6 h5
  go_wp2_with fail
  refine (check_is 1 (a.toNat : Int) 0 Ea.out _ ((H.out).keep h6)).mono ?_
  rintro e w7 ⟨rfl, hb7⟩
  have h7 := h6.trans (hb7.mono h6.size)
  clear hb7 h6
  go_wp2_with fail
  refine (index_any _ _).mono ?_
  rintro e w8 ⟨rfl, hb8⟩
  have h8 := h7.trans (hb8.mono h7.size)
  clear hb8 h7
  go_wp2_with fail
  refine (check_is 1 (256 + (a.toNat : Int)) 130 Eb.out _ ((H.out).keep h8)).mono ?_
  rintro e w9 ⟨rfl, hb9⟩
  have h9 := h8.trans (hb9.mono h8.size)
  clear hb9 h8
  go_wp2_with fail
  refine (index_any _ _).mono ?_
  rintro e w10 ⟨rfl, hb10⟩
  have h10 := h9.trans (hb10.mono h9.size)
  clear hb10 h9
  go_wp2_with fail
  refine (check_is 1 (-1 - (b.toNat : Int)) 130 Ec.out _ ((H.out).keep h10)).mono ?_
  rintro e w11 ⟨rfl, hb11⟩
  have h11 := h10.trans (hb11.mono h10.size)
  clear hb11 h10
  go_wp2
  go_ret
  exact ⟨rfl, h11⟩
set_option maxRecDepth 100000 in
set_option maxHeartbeats 8000000 in
theorem cube_mg (a b : UInt8) (w : World) (h : Tc w) (a16 : (16 : Int) ≤ a.toNat) (a232 : (a.toNat : Int) < 232) (b232 : (232 : Int) ≤ b.toNat) : Calls Tryd.prog 8 #[.int .u8 (a.toNat : Int), .int .u8 (b.toNat : Int)] w fun e w' => e = .returned (.bool true) ∧ Below w.heap.size w w' := by
  have H := Lib.hid h; clear h
  have h0 : Below w.heap.size w w := Below.refl _ _
  have a255 : a.toNat < 256 := a.toNat_lt
  have b255 : b.toNat < 256 := b.toNat_lt
  have A255 : (a.toNat : Int) < 256 := by omega
  have B255 : (b.toNat : Int) < 256 := by omega
  have Ra := Lib.hid (rgbC_ix a.toNat a255)
  have Rb := Lib.hid (rgbC_ix b.toNat b255)
  have Ea := Lib.hid (errC_ix a.toNat a255)
  have Eb := Lib.hid (errC_no 1 (256 + (a.toNat : Int)) (by omega))
  have Ec := Lib.hid (errC_no 1 (-1 - (b.toNat : Int)) (by omega))
  have px := pal_bd a.toNat a255
  have py := pal_bd b.toNat b255
  have ax := and255' (pal a.toNat) px.1 (by omega)
  have ay := and255' (pal b.toNat) py.1 (by omega)
  have gx := and255' (pal a.toNat / 256) (by omega) (by omega)
  have gy := and255' (pal b.toNat / 256) (by omega) (by omega)
  have b16 : (16 : Int) ≤ b.toNat := by omega
  generalize pal a.toNat = x at *
  generalize pal b.toNat = y at *
  go_enter Tryd.func8, Tryd.ntmps8
  go_wp2_with fail
  refine (works_any _ ((H.out).keep h0)).mono ?_
  rintro e w1 ⟨rfl, hb1⟩
  have h1 := h0.trans (hb1.mono h0.size)
  clear hb1 h0
  go_wp2_with fail
  refine (index_any _ _).mono ?_
  rintro e w2 ⟨rfl, hb2⟩
  have h2 := h1.trans (hb2.mono h1.size)
  clear hb2 h1
  go_wp2_with fail
  refine (rgb_is 1 (a.toNat : Int) x Ra.out _ ((H.out).keep h2)).mono ?_
  rintro e w3 ⟨rfl, hb3⟩
  have h3 := h2.trans (hb3.mono h2.size)
  clear hb3 h2
  go_wp2_with fail
  refine (index_any _ _).mono ?_
  rintro e w4 ⟨rfl, hb4⟩
  have h4 := h3.trans (hb4.mono h3.size)
  clear hb4 h3
  go_wp2_with fail
  refine (rgb_is 1 (b.toNat : Int) y Rb.out _ ((H.out).keep h4)).mono ?_
  rintro e w5 ⟨rfl, hb5⟩
  have h5 := h4.trans (hb5.mono h4.size)
  clear hb5 h4
  go_wp2_with fail
  refine (index_any _ _).mono ?_
  rintro e w6 ⟨rfl, hb6⟩
  have h6 := h5.trans (hb6.mono h5.size)
  clear hb6 h5
  go_wp2_with fail
  refine (check_is 1 (a.toNat : Int) 0 Ea.out _ ((H.out).keep h6)).mono ?_
  rintro e w7 ⟨rfl, hb7⟩
  have h7 := h6.trans (hb7.mono h6.size)
  clear hb7 h6
  go_wp2_with fail
  refine (index_any _ _).mono ?_
  rintro e w8 ⟨rfl, hb8⟩
  have h8 := h7.trans (hb8.mono h7.size)
  clear hb8 h7
  go_wp2_with fail
  refine (check_is 1 (256 + (a.toNat : Int)) 130 Eb.out _ ((H.out).keep h8)).mono ?_
  rintro e w9 ⟨rfl, hb9⟩
  have h9 := h8.trans (hb9.mono h8.size)
  clear hb9 h8
  go_wp2_with fail
  refine (index_any _ _).mono ?_
  rintro e w10 ⟨rfl, hb10⟩
  have h10 := h9.trans (hb10.mono h9.size)
  clear hb10 h9
  go_wp2_with fail
  refine (check_is 1 (-1 - (b.toNat : Int)) 130 Ec.out _ ((H.out).keep h10)).mono ?_
  rintro e w11 ⟨rfl, hb11⟩
  have h11 := h10.trans (hb11.mono h10.size)
  clear hb11 h10
  go_wp2
  go_ret
  exact ⟨rfl, h11⟩
set_option maxRecDepth 100000 in
set_option maxHeartbeats 8000000 in
theorem cube_mm (a b : UInt8) (w : World) (h : Tc w) (a16 : (16 : Int) ≤ a.toNat) (a232 : (a.toNat : Int) < 232) (b16 : (16 : Int) ≤ b.toNat) (b232 : (b.toNat : Int) < 232) : Calls Tryd.prog 8 #[.int .u8 (a.toNat : Int), .int .u8 (b.toNat : Int)] w fun e w' => e = .returned (.bool true) ∧ Below w.heap.size w w' := by
  have H := Lib.hid h; clear h
  have h0 : Below w.heap.size w w := Below.refl _ _
  have a255 : a.toNat < 256 := a.toNat_lt
  have b255 : b.toNat < 256 := b.toNat_lt
  have A255 : (a.toNat : Int) < 256 := by omega
  have B255 : (b.toNat : Int) < 256 := by omega
  have Ra := Lib.hid (rgbC_ix a.toNat a255)
  have Rb := Lib.hid (rgbC_ix b.toNat b255)
  have Ea := Lib.hid (errC_ix a.toNat a255)
  have Eb := Lib.hid (errC_no 1 (256 + (a.toNat : Int)) (by omega))
  have Ec := Lib.hid (errC_no 1 (-1 - (b.toNat : Int)) (by omega))
  have px := pal_bd a.toNat a255
  have py := pal_bd b.toNat b255
  have ax := and255' (pal a.toNat) px.1 (by omega)
  have ay := and255' (pal b.toNat) py.1 (by omega)
  have gx := and255' (pal a.toNat / 256) (by omega) (by omega)
  have gy := and255' (pal b.toNat / 256) (by omega) (by omega)
  obtain ⟨m, hm⟩ : ∃ m, a.toNat = m + 16 := ⟨a.toNat - 16, by omega⟩
  obtain ⟨l, hl⟩ : ∃ l, b.toNat = l + 16 := ⟨b.toNat - 16, by omega⟩
  have hg := pal_cube m (by omega)
  have hk := pal_cube l (by omega)
  rw [← hm] at hg
  rw [← hl] at hk
  obtain ⟨i1, hi1⟩ : ∃ i, m / 36 = i := ⟨_, rfl⟩
  obtain ⟨k1, hk1⟩ : ∃ i, l / 36 = i := ⟨_, rfl⟩
  obtain ⟨j2, hj2⟩ : ∃ i, m / 6 = i := ⟨_, rfl⟩
  obtain ⟨l2, hl2⟩ : ∃ i, l / 6 = i := ⟨_, rfl⟩
  obtain ⟨i2, hi2⟩ : ∃ i, j2 % 6 = i := ⟨_, rfl⟩
  obtain ⟨k2, hk2⟩ : ∃ i, l2 % 6 = i := ⟨_, rfl⟩
  obtain ⟨i3, hi3⟩ : ∃ i, m % 6 = i := ⟨_, rfl⟩
  obtain ⟨k3, hk3⟩ : ∃ i, l % 6 = i := ⟨_, rfl⟩
  rw [hi1, hj2, hi2, hi3] at hg
  rw [hk1, hl2, hk2, hk3] at hk
  have e1 := lev_mono i1 k1 (by omega) (by omega)
  have e2 := lev_mono i2 k2 (by omega) (by omega)
  have e3 := lev_mono i3 k3 (by omega) (by omega)
  have s1 : (a.toNat : Int) - 16 = (m : Int) := by omega
  have s2 : (b.toNat : Int) - 16 = (l : Int) := by omega
  have q1 : IntKind.i64.wrap ((m : Int) / 36) = (i1 : Int) := by rw [IntWalk.i64_in _ (by omega)]; omega
  have q2 : IntKind.i64.wrap ((l : Int) / 36) = (k1 : Int) := by rw [IntWalk.i64_in _ (by omega)]; omega
  have q3 : (m : Int) / 36 = (i1 : Int) := by omega
  have q4 : (l : Int) / 36 = (k1 : Int) := by omega
  have q5 : (m : Int) / 6 = (j2 : Int) := by omega
  have q6 : (l : Int) / 6 = (l2 : Int) := by omega
  have q7 : (j2 : Int) % 6 = (i2 : Int) := by omega
  have q8 : (l2 : Int) % 6 = (k2 : Int) := by omega
  have q9 : (m : Int) % 6 = (i3 : Int) := by omega
  have q10 : (l : Int) % 6 = (k3 : Int) := by omega
  have j36 : j2 < 36 := by omega
  have l36 : l2 < 36 := by omega
  have m216 : m < 216 := by omega
  have l216 : l < 216 := by omega
  generalize pal a.toNat = x at *
  generalize pal b.toNat = y at *
  rw [hg.2.2] at ax
  rw [hg.2.1] at gx
  rw [hk.2.2] at ay
  rw [hk.2.1] at gy
  have hr := hg.1
  have hs := hk.1
  clear hg hk hm hl hi1 hk1 hj2 hl2 hi2 hk2 hi3 hk3
  generalize lev i1 = x1 at *
  generalize lev i2 = x2 at *
  generalize lev i3 = x3 at *
  generalize lev k1 = y1 at *
  generalize lev k2 = y2 at *
  generalize lev k3 = y3 at *
  go_enter Tryd.func8, Tryd.ntmps8
  go_wp2_with fail
  refine (works_any _ ((H.out).keep h0)).mono ?_
  rintro e w1 ⟨rfl, hb1⟩
  have h1 := h0.trans (hb1.mono h0.size)
  clear hb1 h0
  go_wp2_with fail
  refine (index_any _ _).mono ?_
  rintro e w2 ⟨rfl, hb2⟩
  have h2 := h1.trans (hb2.mono h1.size)
  clear hb2 h1
  go_wp2_with fail
  refine (rgb_is 1 (a.toNat : Int) x Ra.out _ ((H.out).keep h2)).mono ?_
  rintro e w3 ⟨rfl, hb3⟩
  have h3 := h2.trans (hb3.mono h2.size)
  clear hb3 h2
  go_wp2_with fail
  refine (index_any _ _).mono ?_
  rintro e w4 ⟨rfl, hb4⟩
  have h4 := h3.trans (hb4.mono h3.size)
  clear hb4 h3
  go_wp2_with fail
  refine (rgb_is 1 (b.toNat : Int) y Rb.out _ ((H.out).keep h4)).mono ?_
  rintro e w5 ⟨rfl, hb5⟩
  have h5 := h4.trans (hb5.mono h4.size)
  clear hb5 h4
  go_wp2_with fail
  refine (index_any _ _).mono ?_
  rintro e w6 ⟨rfl, hb6⟩
  have h6 := h5.trans (hb6.mono h5.size)
  clear hb6 h5
  go_wp2_with fail
  refine (check_is 1 (a.toNat : Int) 0 Ea.out _ ((H.out).keep h6)).mono ?_
  rintro e w7 ⟨rfl, hb7⟩
  have h7 := h6.trans (hb7.mono h6.size)
  clear hb7 h6
  go_wp2_with fail
  refine (index_any _ _).mono ?_
  rintro e w8 ⟨rfl, hb8⟩
  have h8 := h7.trans (hb8.mono h7.size)
  clear hb8 h7
  go_wp2_with fail
  refine (check_is 1 (256 + (a.toNat : Int)) 130 Eb.out _ ((H.out).keep h8)).mono ?_
  rintro e w9 ⟨rfl, hb9⟩
  have h9 := h8.trans (hb9.mono h8.size)
  clear hb9 h8
  go_wp2_with fail
  refine (index_any _ _).mono ?_
  rintro e w10 ⟨rfl, hb10⟩
  have h10 := h9.trans (hb10.mono h9.size)
  clear hb10 h9
  go_wp2_with fail
  refine (check_is 1 (-1 - (b.toNat : Int)) 130 Ec.out _ ((H.out).keep h10)).mono ?_
  rintro e w11 ⟨rfl, hb11⟩
  have h11 := h10.trans (hb11.mono h10.size)
  clear hb11 h10
  go_wp2
  go_ret
  exact ⟨rfl, h11⟩

theorem cube_any (a b : UInt8) (w : World) (h : Tc w) : Calls Tryd.prog 8 #[.int .u8 (a.toNat : Int), .int .u8 (b.toNat : Int)] w fun e w' => e = .returned (.bool true) ∧ Below w.heap.size w w' := by
  by_cases a16 : (a.toNat : Int) < 16
  · exact cube_lo a b w h a16
  · by_cases a232 : (232 : Int) ≤ a.toNat
    · by_cases b232 : (232 : Int) ≤ b.toNat
      · by_cases hab : (a.toNat : Int) < b.toNat
        · exact cube_gg a b w h a232 b232 hab
        · exact cube_ggn a b w h a232 b232 (by omega)
      · exact cube_g a b w h a232 (by omega)
    · by_cases b16 : (b.toNat : Int) < 16
      · exact cube_ml a b w h (by omega) (by omega) b16
      · by_cases b232 : (232 : Int) ≤ b.toNat
        · exact cube_mg a b w h (by omega) (by omega) b232
        · exact cube_mm a b w h (by omega) (by omega) (by omega) (by omega)
end Go.Proofs.YtddgigiajenmkaaDoor.Col
