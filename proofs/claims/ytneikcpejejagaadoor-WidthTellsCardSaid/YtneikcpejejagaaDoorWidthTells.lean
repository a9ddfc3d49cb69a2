/-
  The walk of the law WidthTells: it returns true, whatever its argument; nothing that lay before the call has turned.
-/
import Derived.Test.YtneikcpejejagaaDoorWidG
namespace Go.Proofs.YtneikcpejejagaaDoor.Wid
open Go.RowKit Utf

set_option maxRecDepth 100000 in
set_option maxHeartbeats 8000000 in
theorem tells_any (c : Int) (w : World) (h : Tb w) : Calls Tryd.prog 3 #[.int .i64 c] w fun e w' => e = .returned (.bool true) ∧ Below w.heap.size w w' := by
  have H := Lib.hid h; clear h
  go_enter Tryd.func3, Tryd.ntmps3
  go_wp2_with fail
  go_loopw [7] (fun i wr => ∃ k : Nat, k ≤ 4 ∧ i = .int .i64 k ∧ Hid (Below w.heap.size w wr)) (fun i _ => 4 - (intOf i).toNat)
  case atStart => exact ⟨0, by omega, rfl, Below.refl _ _⟩
  case round =>
    obtain ⟨k, hk, rfl, hid⟩ := hrel
    have h0 := hid.out
    clear hid
    rcases (show k = 0 ∨ k = 1 ∨ k = 2 ∨ k = 3 ∨ k = 4 by omega) with rfl | rfl | rfl | rfl | rfl
    · rw [show (((0 : Nat)) : Int) = 0 from rfl]
      have x0 : ∀ W, (Instr.index 22 (.agg #[.int .i64 1114112, .int .i64 12544, .int .i64 65536, .int .i64 1024]) (.int .i64 0)).run Tryd.prog W = .ok (.int .i64 1114112) W := fun _ => by kernel_rfl
      go_wp2_with fail
      refine (of_any _ _ ((H.out).keep h0)).mono ?_
      rintro e w1 ⟨rfl, hb1⟩
      have h1 := h0.trans (hb1.mono h0.size)
      clear hb1 h0
      go_wp2_with fail
      refine (rof_any _ _).mono ?_
      rintro e w2 ⟨rfl, hb2⟩
      have h2 := h1.trans (hb2.mono h1.size)
      clear hb2 h1
      go_wp2_with fail
      refine (of_any _ _ ((H.out).keep h2)).mono ?_
      rintro e w3 ⟨rfl, hb3⟩
      have h3 := h2.trans (hb3.mono h2.size)
      clear hb3 h2
      go_wp2_with fail
      refine (rof_any _ _).mono ?_
      rintro e w4 ⟨rfl, hb4⟩
      have h4 := h3.trans (hb4.mono h3.size)
      clear hb4 h3
      go_wp2_with fail
      refine (of_any _ _ ((H.out).keep h4)).mono ?_
      rintro e w5 ⟨rfl, hb5⟩
      have h5 := h4.trans (hb5.mono h4.size)
      clear hb5 h4
      go_wp2_with fail
      refine (rof_any _ _).mono ?_
      rintro e w6 ⟨rfl, hb6⟩
      have h6 := h5.trans (hb6.mono h5.size)
      clear hb6 h5
      go_wp2
      go_roundw
      case rel => exact ⟨1, by omega, rfl, h6⟩
      case measure => simp [intOf]
    · rw [show (((1 : Nat)) : Int) = 1 from rfl]
      have x1 : ∀ W, (Instr.index 22 (.agg #[.int .i64 1114112, .int .i64 12544, .int .i64 65536, .int .i64 1024]) (.int .i64 1)).run Tryd.prog W = .ok (.int .i64 12544) W := fun _ => by kernel_rfl
      go_wp2_with fail
      refine (of_any _ _ ((H.out).keep h0)).mono ?_
      rintro e w1 ⟨rfl, hb1⟩
      have h1 := h0.trans (hb1.mono h0.size)
      clear hb1 h0
      go_wp2_with fail
      refine (rof_any _ _).mono ?_
      rintro e w2 ⟨rfl, hb2⟩
      have h2 := h1.trans (hb2.mono h1.size)
      clear hb2 h1
      go_wp2_with fail
      refine (of_any _ _ ((H.out).keep h2)).mono ?_
      rintro e w3 ⟨rfl, hb3⟩
      have h3 := h2.trans (hb3.mono h2.size)
      clear hb3 h2
      go_wp2_with fail
      refine (rof_any _ _).mono ?_
      rintro e w4 ⟨rfl, hb4⟩
      have h4 := h3.trans (hb4.mono h3.size)
      clear hb4 h3
      go_wp2_with fail
      refine (of_any _ _ ((H.out).keep h4)).mono ?_
      rintro e w5 ⟨rfl, hb5⟩
      have h5 := h4.trans (hb5.mono h4.size)
      clear hb5 h4
      go_wp2_with fail
      refine (rof_any _ _).mono ?_
      rintro e w6 ⟨rfl, hb6⟩
      have h6 := h5.trans (hb6.mono h5.size)
      clear hb6 h5
      go_wp2
      go_roundw
      case rel => exact ⟨2, by omega, rfl, h6⟩
      case measure => simp [intOf]
    · rw [show (((2 : Nat)) : Int) = 2 from rfl]
      have x2 : ∀ W, (Instr.index 22 (.agg #[.int .i64 1114112, .int .i64 12544, .int .i64 65536, .int .i64 1024]) (.int .i64 2)).run Tryd.prog W = .ok (.int .i64 65536) W := fun _ => by kernel_rfl
      go_wp2_with fail
      refine (of_any _ _ ((H.out).keep h0)).mono ?_
      rintro e w1 ⟨rfl, hb1⟩
      have h1 := h0.trans (hb1.mono h0.size)
      clear hb1 h0
      go_wp2_with fail
      refine (rof_any _ _).mono ?_
      rintro e w2 ⟨rfl, hb2⟩
      have h2 := h1.trans (hb2.mono h1.size)
      clear hb2 h1
      go_wp2_with fail
      refine (of_any _ _ ((H.out).keep h2)).mono ?_
      rintro e w3 ⟨rfl, hb3⟩
      have h3 := h2.trans (hb3.mono h2.size)
      clear hb3 h2
      go_wp2_with fail
      refine (rof_any _ _).mono ?_
      rintro e w4 ⟨rfl, hb4⟩
      have h4 := h3.trans (hb4.mono h3.size)
      clear hb4 h3
      go_wp2_with fail
      refine (of_any _ _ ((H.out).keep h4)).mono ?_
      rintro e w5 ⟨rfl, hb5⟩
      have h5 := h4.trans (hb5.mono h4.size)
      clear hb5 h4
      go_wp2_with fail
      refine (rof_any _ _).mono ?_
      rintro e w6 ⟨rfl, hb6⟩
      have h6 := h5.trans (hb6.mono h5.size)
      clear hb6 h5
      go_wp2
      go_roundw
      case rel => exact ⟨3, by omega, rfl, h6⟩
      case measure => simp [intOf]
    · rw [show (((3 : Nat)) : Int) = 3 from rfl]
      have x3 : ∀ W, (Instr.index 22 (.agg #[.int .i64 1114112, .int .i64 12544, .int .i64 65536, .int .i64 1024]) (.int .i64 3)).run Tryd.prog W = .ok (.int .i64 1024) W := fun _ => by kernel_rfl
      go_wp2_with fail
      refine (of_any _ _ ((H.out).keep h0)).mono ?_
      rintro e w1 ⟨rfl, hb1⟩
      have h1 := h0.trans (hb1.mono h0.size)
      clear hb1 h0
      go_wp2_with fail
      refine (rof_any _ _).mono ?_
      rintro e w2 ⟨rfl, hb2⟩
      have h2 := h1.trans (hb2.mono h1.size)
      clear hb2 h1
      go_wp2_with fail
      refine (of_any _ _ ((H.out).keep h2)).mono ?_
      rintro e w3 ⟨rfl, hb3⟩
      have h3 := h2.trans (hb3.mono h2.size)
      clear hb3 h2
      go_wp2_with fail
      refine (rof_any _ _).mono ?_
      rintro e w4 ⟨rfl, hb4⟩
      have h4 := h3.trans (hb4.mono h3.size)
      clear hb4 h3
      go_wp2_with fail
      refine (of_any _ _ ((H.out).keep h4)).mono ?_
      rintro e w5 ⟨rfl, hb5⟩
      have h5 := h4.trans (hb5.mono h4.size)
      clear hb5 h4
      go_wp2_with fail
      refine (rof_any _ _).mono ?_
      rintro e w6 ⟨rfl, hb6⟩
      have h6 := h5.trans (hb6.mono h5.size)
      clear hb6 h5
      go_wp2
      go_roundw
      case rel => exact ⟨4, by omega, rfl, h6⟩
      case measure => simp [intOf]
    · rw [show (((4 : Nat)) : Int) = 4 from rfl]
      go_wp2_with fail
      refine (of_any _ _ ((H.out).keep h0)).mono ?_
      rintro e w1 ⟨rfl, hb1⟩
      have h1 := h0.trans (hb1.mono h0.size)
      clear hb1 h0
      go_wp2_with fail
      refine (rof_any _ _).mono ?_
      rintro e w2 ⟨rfl, hb2⟩
      have h2 := h1.trans (hb2.mono h1.size)
      clear hb2 h1
      go_wp2_with fail
      refine (works_any _ ((H.out).keep h2)).mono ?_
      rintro e wz ⟨rfl, hbz⟩
      go_wp2
      go_ret
      exact ⟨rfl, h2.trans (hbz.mono h2.size)⟩
end Go.Proofs.YtneikcpejejagaaDoor.Wid
