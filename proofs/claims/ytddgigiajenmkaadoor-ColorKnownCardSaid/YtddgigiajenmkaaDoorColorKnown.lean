/-
  The walk of the law ColorKnown: it returns true; nothing that lay before the call has turned.
-/
import Derived.Test.YtddgigiajenmkaaDoorColF
namespace Go.Proofs.YtddgigiajenmkaaDoor.Col
open Go.RowKit Utf

set_option maxRecDepth 100000 in
set_option maxHeartbeats 8000000 in
theorem known_any (w : World) (h : Tc w) : Calls Tryd.prog 9 #[] w fun e w' => e = .returned (.bool true) ∧ Below w.heap.size w w' := by
  have H := Lib.hid h; clear h
  go_enter Tryd.func9, Tryd.ntmps9
  go_wp2_with fail
  go_loopw [14] (fun i wr => ∃ k : Nat, k ≤ 8 ∧ i = .int .i64 k ∧ Hid (Below w.heap.size w wr)) (fun i _ => 8 - (intOf i).toNat)
  case atStart => exact ⟨0, by omega, rfl, Below.refl _ _⟩
  case round =>
    obtain ⟨k, hk, rfl, hid⟩ := hrel
    have h0 := hid.out
    clear hid
    rcases (show k = 0 ∨ k = 1 ∨ k = 2 ∨ k = 3 ∨ k = 4 ∨ k = 5 ∨ k = 6 ∨ k = 7 ∨ k = 8 by omega) with rfl | rfl | rfl | rfl | rfl | rfl | rfl | rfl | rfl
    · rw [show (((0 : Nat)) : Int) = 0 from rfl]
      have x0 : ∀ W, (Instr.index 52 (.agg #[.string ⟨#[]⟩, .string ⟨#[114, 103, 98, 58, 48, 48, 47, 48, 48, 47, 48]⟩, .string ⟨#[114, 103, 98, 58, 48, 48, 47, 48, 48, 47, 48, 48, 48]⟩, .string ⟨#[82, 71, 66, 58, 48, 48, 47, 48, 48, 47, 48, 48]⟩, .string ⟨#[114, 103, 98, 58, 48, 103, 47, 48, 48, 47, 48, 48]⟩, .string ⟨#[114, 103, 98, 58, 48, 48, 45, 48, 48, 47, 48, 48]⟩, .string ⟨#[114, 103, 98, 58, 48, 48, 47, 48, 48, 47, 48, 32]⟩, .string ⟨#[35, 48, 48, 48, 48, 48, 48]⟩]) (.int .i64 0)).run Tryd.prog W = .ok (.string ⟨#[]⟩) W := fun _ => by kernel_rfl
      have n0 := Lib.hid (show parseL (⟨#[]⟩ : ByteArray).data.toList = none by decide +kernel)
      go_wp2_with fail
      refine (refused_yes ⟨#[]⟩ n0.out _).mono ?_
      rintro e w1 ⟨rfl, hb1⟩
      have h1 := h0.trans (hb1.mono h0.size)
      clear hb1 h0
      go_wp2
      go_roundw
      case rel => exact ⟨1, by omega, rfl, h1⟩
      case measure => simp [intOf]
    · rw [show (((1 : Nat)) : Int) = 1 from rfl]
      have x0 : ∀ W, (Instr.index 52 (.agg #[.string ⟨#[]⟩, .string ⟨#[114, 103, 98, 58, 48, 48, 47, 48, 48, 47, 48]⟩, .string ⟨#[114, 103, 98, 58, 48, 48, 47, 48, 48, 47, 48, 48, 48]⟩, .string ⟨#[82, 71, 66, 58, 48, 48, 47, 48, 48, 47, 48, 48]⟩, .string ⟨#[114, 103, 98, 58, 48, 103, 47, 48, 48, 47, 48, 48]⟩, .string ⟨#[114, 103, 98, 58, 48, 48, 45, 48, 48, 47, 48, 48]⟩, .string ⟨#[114, 103, 98, 58, 48, 48, 47, 48, 48, 47, 48, 32]⟩, .string ⟨#[35, 48, 48, 48, 48, 48, 48]⟩]) (.int .i64 1)).run Tryd.prog W = .ok (.string ⟨#[114, 103, 98, 58, 48, 48, 47, 48, 48, 47, 48]⟩) W := fun _ => by kernel_rfl
      have n0 := Lib.hid (show parseL (⟨#[114, 103, 98, 58, 48, 48, 47, 48, 48, 47, 48]⟩ : ByteArray).data.toList = none by decide +kernel)
      go_wp2_with fail
      refine (refused_yes ⟨#[114, 103, 98, 58, 48, 48, 47, 48, 48, 47, 48]⟩ n0.out _).mono ?_
      rintro e w1 ⟨rfl, hb1⟩
      have h1 := h0.trans (hb1.mono h0.size)
      clear hb1 h0
      go_wp2
      go_roundw
      case rel => exact ⟨2, by omega, rfl, h1⟩
      case measure => simp [intOf]
    · rw [show (((2 : Nat)) : Int) = 2 from rfl]
      have x0 : ∀ W, (Instr.index 52 (.agg #[.string ⟨#[]⟩, .string ⟨#[114, 103, 98, 58, 48, 48, 47, 48, 48, 47, 48]⟩, .string ⟨#[114, 103, 98, 58, 48, 48, 47, 48, 48, 47, 48, 48, 48]⟩, .string ⟨#[82, 71, 66, 58, 48, 48, 47, 48, 48, 47, 48, 48]⟩, .string ⟨#[114, 103, 98, 58, 48, 103, 47, 48, 48, 47, 48, 48]⟩, .string ⟨#[114, 103, 98, 58, 48, 48, 45, 48, 48, 47, 48, 48]⟩, .string ⟨#[114, 103, 98, 58, 48, 48, 47, 48, 48, 47, 48, 32]⟩, .string ⟨#[35, 48, 48, 48, 48, 48, 48]⟩]) (.int .i64 2)).run Tryd.prog W = .ok (.string ⟨#[114, 103, 98, 58, 48, 48, 47, 48, 48, 47, 48, 48, 48]⟩) W := fun _ => by kernel_rfl
      have n0 := Lib.hid (show parseL (⟨#[114, 103, 98, 58, 48, 48, 47, 48, 48, 47, 48, 48, 48]⟩ : ByteArray).data.toList = none by decide +kernel)
      go_wp2_with fail
      refine (refused_yes ⟨#[114, 103, 98, 58, 48, 48, 47, 48, 48, 47, 48, 48, 48]⟩ n0.out _).mono ?_
      rintro e w1 ⟨rfl, hb1⟩
      have h1 := h0.trans (hb1.mono h0.size)
      clear hb1 h0
      go_wp2
      go_roundw
      case rel => exact ⟨3, by omega, rfl, h1⟩
      case measure => simp [intOf]
    · rw [show (((3 : Nat)) : Int) = 3 from rfl]
      have x0 : ∀ W, (Instr.index 52 (.agg #[.string ⟨#[]⟩, .string ⟨#[114, 103, 98, 58, 48, 48, 47, 48, 48, 47, 48]⟩, .string ⟨#[114, 103, 98, 58, 48, 48, 47, 48, 48, 47, 48, 48, 48]⟩, .string ⟨#[82, 71, 66, 58, 48, 48, 47, 48, 48, 47, 48, 48]⟩, .string ⟨#[114, 103, 98, 58, 48, 103, 47, 48, 48, 47, 48, 48]⟩, .string ⟨#[114, 103, 98, 58, 48, 48, 45, 48, 48, 47, 48, 48]⟩, .string ⟨#[114, 103, 98, 58, 48, 48, 47, 48, 48, 47, 48, 32]⟩, .string ⟨#[35, 48, 48, 48, 48, 48, 48]⟩]) (.int .i64 3)).run Tryd.prog W = .ok (.string ⟨#[82, 71, 66, 58, 48, 48, 47, 48, 48, 47, 48, 48]⟩) W := fun _ => by kernel_rfl
      have n0 := Lib.hid (show parseL (⟨#[82, 71, 66, 58, 48, 48, 47, 48, 48, 47, 48, 48]⟩ : ByteArray).data.toList = none by decide +kernel)
      go_wp2_with fail
      refine (refused_yes ⟨#[82, 71, 66, 58, 48, 48, 47, 48, 48, 47, 48, 48]⟩ n0.out _).mono ?_
      rintro e w1 ⟨rfl, hb1⟩
      have h1 := h0.trans (hb1.mono h0.size)
      clear hb1 h0
      go_wp2
      go_roundw
      case rel => exact ⟨4, by omega, rfl, h1⟩
      case measure => simp [intOf]
    · rw [show (((4 : Nat)) : Int) = 4 from rfl]
      have x0 : ∀ W, (Instr.index 52 (.agg #[.string ⟨#[]⟩, .string ⟨#[114, 103, 98, 58, 48, 48, 47, 48, 48, 47, 48]⟩, .string ⟨#[114, 103, 98, 58, 48, 48, 47, 48, 48, 47, 48, 48, 48]⟩, .string ⟨#[82, 71, 66, 58, 48, 48, 47, 48, 48, 47, 48, 48]⟩, .string ⟨#[114, 103, 98, 58, 48, 103, 47, 48, 48, 47, 48, 48]⟩, .string ⟨#[114, 103, 98, 58, 48, 48, 45, 48, 48, 47, 48, 48]⟩, .string ⟨#[114, 103, 98, 58, 48, 48, 47, 48, 48, 47, 48, 32]⟩, .string ⟨#[35, 48, 48, 48, 48, 48, 48]⟩]) (.int .i64 4)).run Tryd.prog W = .ok (.string ⟨#[114, 103, 98, 58, 48, 103, 47, 48, 48, 47, 48, 48]⟩) W := fun _ => by kernel_rfl
      have n0 := Lib.hid (show parseL (⟨#[114, 103, 98, 58, 48, 103, 47, 48, 48, 47, 48, 48]⟩ : ByteArray).data.toList = none by decide +kernel)
      go_wp2_with fail
      refine (refused_yes ⟨#[114, 103, 98, 58, 48, 103, 47, 48, 48, 47, 48, 48]⟩ n0.out _).mono ?_
      rintro e w1 ⟨rfl, hb1⟩
      have h1 := h0.trans (hb1.mono h0.size)
      clear hb1 h0
      go_wp2
      go_roundw
      case rel => exact ⟨5, by omega, rfl, h1⟩
      case measure => simp [intOf]
    · rw [show (((5 : Nat)) : Int) = 5 from rfl]
      have x0 : ∀ W, (Instr.index 52 (.agg #[.string ⟨#[]⟩, .string ⟨#[114, 103, 98, 58, 48, 48, 47, 48, 48, 47, 48]⟩, .string ⟨#[114, 103, 98, 58, 48, 48, 47, 48, 48, 47, 48, 48, 48]⟩, .string ⟨#[82, 71, 66, 58, 48, 48, 47, 48, 48, 47, 48, 48]⟩, .string ⟨#[114, 103, 98, 58, 48, 103, 47, 48, 48, 47, 48, 48]⟩, .string ⟨#[114, 103, 98, 58, 48, 48, 45, 48, 48, 47, 48, 48]⟩, .string ⟨#[114, 103, 98, 58, 48, 48, 47, 48, 48, 47, 48, 32]⟩, .string ⟨#[35, 48, 48, 48, 48, 48, 48]⟩]) (.int .i64 5)).run Tryd.prog W = .ok (.string ⟨#[114, 103, 98, 58, 48, 48, 45, 48, 48, 47, 48, 48]⟩) W := fun _ => by kernel_rfl
      have n0 := Lib.hid (show parseL (⟨#[114, 103, 98, 58, 48, 48, 45, 48, 48, 47, 48, 48]⟩ : ByteArray).data.toList = none by decide +kernel)
      go_wp2_with fail
      refine (refused_yes ⟨#[114, 103, 98, 58, 48, 48, 45, 48, 48, 47, 48, 48]⟩ n0.out _).mono ?_
      rintro e w1 ⟨rfl, hb1⟩
      have h1 := h0.trans (hb1.mono h0.size)
      clear hb1 h0
      go_wp2
      go_roundw
      case rel => exact ⟨6, by omega, rfl, h1⟩
      case measure => simp [intOf]
    · rw [show (((6 : Nat)) : Int) = 6 from rfl]
      have x0 : ∀ W, (Instr.index 52 (.agg #[.string ⟨#[]⟩, .string ⟨#[114, 103, 98, 58, 48, 48, 47, 48, 48, 47, 48]⟩, .string ⟨#[114, 103, 98, 58, 48, 48, 47, 48, 48, 47, 48, 48, 48]⟩, .string ⟨#[82, 71, 66, 58, 48, 48, 47, 48, 48, 47, 48, 48]⟩, .string ⟨#[114, 103, 98, 58, 48, 103, 47, 48, 48, 47, 48, 48]⟩, .string ⟨#[114, 103, 98, 58, 48, 48, 45, 48, 48, 47, 48, 48]⟩, .string ⟨#[114, 103, 98, 58, 48, 48, 47, 48, 48, 47, 48, 32]⟩, .string ⟨#[35, 48, 48, 48, 48, 48, 48]⟩]) (.int .i64 6)).run Tryd.prog W = .ok (.string ⟨#[114, 103, 98, 58, 48, 48, 47, 48, 48, 47, 48, 32]⟩) W := fun _ => by kernel_rfl
      have n0 := Lib.hid (show parseL (⟨#[114, 103, 98, 58, 48, 48, 47, 48, 48, 47, 48, 32]⟩ : ByteArray).data.toList = none by decide +kernel)
      go_wp2_with fail
      refine (refused_yes ⟨#[114, 103, 98, 58, 48, 48, 47, 48, 48, 47, 48, 32]⟩ n0.out _).mono ?_
      rintro e w1 ⟨rfl, hb1⟩
      have h1 := h0.trans (hb1.mono h0.size)
      clear hb1 h0
      go_wp2
      go_roundw
      case rel => exact ⟨7, by omega, rfl, h1⟩
      case measure => simp [intOf]
    · rw [show (((7 : Nat)) : Int) = 7 from rfl]
      have x0 : ∀ W, (Instr.index 52 (.agg #[.string ⟨#[]⟩, .string ⟨#[114, 103, 98, 58, 48, 48, 47, 48, 48, 47, 48]⟩, .string ⟨#[114, 103, 98, 58, 48, 48, 47, 48, 48, 47, 48, 48, 48]⟩, .string ⟨#[82, 71, 66, 58, 48, 48, 47, 48, 48, 47, 48, 48]⟩, .string ⟨#[114, 103, 98, 58, 48, 103, 47, 48, 48, 47, 48, 48]⟩, .string ⟨#[114, 103, 98, 58, 48, 48, 45, 48, 48, 47, 48, 48]⟩, .string ⟨#[114, 103, 98, 58, 48, 48, 47, 48, 48, 47, 48, 32]⟩, .string ⟨#[35, 48, 48, 48, 48, 48, 48]⟩]) (.int .i64 7)).run Tryd.prog W = .ok (.string ⟨#[35, 48, 48, 48, 48, 48, 48]⟩) W := fun _ => by kernel_rfl
      have n0 := Lib.hid (show parseL (⟨#[35, 48, 48, 48, 48, 48, 48]⟩ : ByteArray).data.toList = none by decide +kernel)
      go_wp2_with fail
      refine (refused_yes ⟨#[35, 48, 48, 48, 48, 48, 48]⟩ n0.out _).mono ?_
      rintro e w1 ⟨rfl, hb1⟩
      have h1 := h0.trans (hb1.mono h0.size)
      clear hb1 h0
      go_wp2
      go_roundw
      case rel => exact ⟨8, by omega, rfl, h1⟩
      case measure => simp [intOf]
    · rw [show (((8 : Nat)) : Int) = 8 from rfl]
      go_wp2_with fail
      refine (nearest_is (-1) 0 2 (by decide +kernel) (by decide +kernel) _ ((H.out).keep h0)).mono ?_
      rintro e w1 ⟨rfl, hb1⟩
      have h1 := h0.trans (hb1.mono h0.size)
      clear hb1 h0
      go_wp2_with fail
      refine (nearest_is 16777216 0 2 (by decide +kernel) (by decide +kernel) _ ((H.out).keep h1)).mono ?_
      rintro e w2 ⟨rfl, hb2⟩
      have h2 := h1.trans (hb2.mono h1.size)
      clear hb2 h1
      go_wp2_with fail
      refine (rgb_not 0 0 (by decide +kernel) _ ((H.out).keep h2)).mono ?_
      rintro e w3 ⟨rfl, hb3⟩
      have h3 := h2.trans (hb3.mono h2.size)
      clear hb3 h2
      go_wp2_with fail
      refine (index_any _ _).mono ?_
      rintro e w4 ⟨rfl, hb4⟩
      have h4 := h3.trans (hb4.mono h3.size)
      clear hb4 h3
      go_wp2_with fail
      refine (rgb_not 1 256 (by decide +kernel) _ ((H.out).keep h4)).mono ?_
      rintro e w5 ⟨rfl, hb5⟩
      have h5 := h4.trans (hb5.mono h4.size)
      clear hb5 h4
      go_wp2_with fail
      refine (check_is 0 0 0 (by decide +kernel) _ ((H.out).keep h5)).mono ?_
      rintro e w6 ⟨rfl, hb6⟩
      have h6 := h5.trans (hb6.mono h5.size)
      clear hb6 h5
      go_wp2_with fail
      refine (check_is 0 1 130 (by decide +kernel) _ ((H.out).keep h6)).mono ?_
      rintro e w7 ⟨rfl, hb7⟩
      have h7 := h6.trans (hb7.mono h6.size)
      clear hb7 h6
      go_wp2_with fail
      refine (lrgb_any _ _).mono ?_
      rintro e w8 ⟨rfl, hb8⟩
      have h8 := h7.trans (hb8.mono h7.size)
      clear hb8 h7
      go_wp2_with fail
      refine (check_is 2 16777215 0 (by decide +kernel) _ ((H.out).keep h8)).mono ?_
      rintro e w9 ⟨rfl, hb9⟩
      have h9 := h8.trans (hb9.mono h8.size)
      clear hb9 h8
      go_wp2_with fail
      refine (lrgb_any _ _).mono ?_
      rintro e w10 ⟨rfl, hb10⟩
      have h10 := h9.trans (hb10.mono h9.size)
      clear hb10 h9
      go_wp2_with fail
      refine (check_is 2 16777216 130 (by decide +kernel) _ ((H.out).keep h10)).mono ?_
      rintro e w11 ⟨rfl, hb11⟩
      have h11 := h10.trans (hb11.mono h10.size)
      clear hb11 h10
      go_wp2_with fail
      refine (check_is 3 0 130 (by decide +kernel) _ ((H.out).keep h11)).mono ?_
      rintro e w12 ⟨rfl, hb12⟩
      have h12 := h11.trans (hb12.mono h11.size)
      clear hb12 h11
      go_wp2_with fail
      refine (check_is (-1) 0 130 (by decide +kernel) _ ((H.out).keep h12)).mono ?_
      rintro e w13 ⟨rfl, hb13⟩
      have h13 := h12.trans (hb13.mono h12.size)
      clear hb13 h12
      go_wp2_with fail
      refine (index_any _ _).mono ?_
      rintro e w14 ⟨rfl, hb14⟩
      have h14 := h13.trans (hb14.mono h13.size)
      clear hb14 h13
      go_wp2_with fail
      refine (shows_yes 1 17 95 (by decide +kernel) _ ((H.out).keep h14)).mono ?_
      rintro e w15 ⟨rfl, hb15⟩
      have h15 := h14.trans (hb15.mono h14.size)
      clear hb15 h14
      go_wp2_with fail
      refine (index_any _ _).mono ?_
      rintro e w16 ⟨rfl, hb16⟩
      have h16 := h15.trans (hb16.mono h15.size)
      clear hb16 h15
      go_wp2_with fail
      refine (shows_yes 1 52 6225920 (by decide +kernel) _ ((H.out).keep h16)).mono ?_
      rintro e w17 ⟨rfl, hb17⟩
      have h17 := h16.trans (hb17.mono h16.size)
      clear hb17 h16
      go_wp2_with fail
      refine (index_any _ _).mono ?_
      rintro e w18 ⟨rfl, hb18⟩
      have h18 := h17.trans (hb18.mono h17.size)
      clear hb18 h17
      go_wp2_with fail
      refine (shows_yes 1 101 8882015 (by decide +kernel) _ ((H.out).keep h18)).mono ?_
      rintro e w19 ⟨rfl, hb19⟩
      have h19 := h18.trans (hb19.mono h18.size)
      clear hb19 h18
      go_wp2_with fail
      refine (index_any _ _).mono ?_
      rintro e w20 ⟨rfl, hb20⟩
      have h20 := h19.trans (hb20.mono h19.size)
      clear hb20 h19
      go_wp2_with fail
      refine (shows_yes 1 244 8421504 (by decide +kernel) _ ((H.out).keep h20)).mono ?_
      rintro e w21 ⟨rfl, hb21⟩
      have h21 := h20.trans (hb21.mono h20.size)
      clear hb21 h20
      go_wp2_with fail
      refine (works_any _ ((H.out).keep h21)).mono ?_
      rintro e w22 ⟨rfl, hb22⟩
      have h22 := h21.trans (hb22.mono h21.size)
      clear hb22 h21
      go_wp2_with fail
      refine (near_yes 8355711 8 (by decide +kernel) (by decide +kernel) _ ((H.out).keep h22)).mono ?_
      rintro e w23 ⟨rfl, hb23⟩
      have h23 := h22.trans (hb23.mono h22.size)
      clear hb23 h22
      go_wp2_with fail
      refine (near_yes 6053119 12 (by decide +kernel) (by decide +kernel) _ ((H.out).keep h23)).mono ?_
      rintro e w24 ⟨rfl, hb24⟩
      have h24 := h23.trans (hb24.mono h23.size)
      clear hb24 h23
      go_wp2_with fail
      refine (near_yes 15658734 255 (by decide +kernel) (by decide +kernel) _ ((H.out).keep h24)).mono ?_
      rintro e w25 ⟨rfl, hb25⟩
      have h25 := h24.trans (hb25.mono h24.size)
      clear hb25 h24
      go_wp2
      go_ret
      exact ⟨rfl, h25⟩
end Go.Proofs.YtddgigiajenmkaaDoor.Col
