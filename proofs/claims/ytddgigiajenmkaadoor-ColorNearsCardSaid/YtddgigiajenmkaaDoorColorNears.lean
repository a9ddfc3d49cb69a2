/-
  The walk of the law ColorNears: it returns true, whatever its arguments; nothing that lay before the call has turned.
-/
import Derived.Test.YtddgigiajenmkaaDoorColH
namespace Go.Proofs.YtddgigiajenmkaaDoor.Col
open Go.RowKit Utf

theorem nearest_t (x : Int) (w : World) (h : Tc w) : Calls Tryd.prog 18 #[.int .i64 x] w fun e w' => e = .returned (.tuple #[.int .i64 (nearC x), .int .i64 (nearE x)]) ∧ Below w.heap.size w w' := nearest_any x w h
theorem rnearest_t (x : Int) (w : World) : Calls Tryd.prog 19 #[.int .i64 x] w fun e w' => e = .returned (.tuple #[.int .i64 (nearC x), .int .i64 (nearE x)]) ∧ Below w.heap.size w w' := rnearest_any x w
set_option maxRecDepth 100000 in
set_option maxHeartbeats 8000000 in
theorem nears_any (rgb : Int) (b : UInt8) (by_ : Int) (w : World) (h : Tc w) : Calls Tryd.prog 4 #[.int .i64 rgb, .int .u8 (b.toNat : Int), .int .u16 by_] w fun e w' => e = .returned (.bool true) ∧ Below w.heap.size w w' := by
  have H := Lib.hid h; clear h
  have b255 : b.toNat < 256 := b.toNat_lt
  have h0 : Below w.heap.size w w := Below.refl _ _
  go_enter Tryd.func4, Tryd.ntmps4
  go_wp2_with fail
  refine (rindex_any b.toNat _ b255).mono ?_
  rintro e w1 ⟨rfl, hb1⟩
  have h1 := h0.trans (hb1.mono h0.size)
  clear hb1 h0
  generalize pal b.toNat = q
  go_wp2_with fail
  generalize wrap64 ((IntKind.u64.wrap rgb).tmod 16777216) = v1
  generalize bits BinOp.xor IntKind.i64 q (wrap64 by_) = v2
  generalize wrap64 (wrap64 ((IntKind.u64.wrap rgb).tmod 256) * 65793) = v3
  have h1' := Lib.hid h1
  go_loopw [32] (fun i wr => ∃ k : Nat, k ≤ 4 ∧ i = .int .i64 k ∧ Hid (Below w.heap.size w wr)) (fun i _ => 4 - (intOf i).toNat)
  case atStart => exact ⟨0, by omega, rfl, h1'⟩
  case round =>
    clear h1 h1'
    obtain ⟨k, hk, rfl, hid⟩ := hrel
    have h0 := hid.out
    clear hid
    rcases (show k = 0 ∨ k = 1 ∨ k = 2 ∨ k = 3 ∨ k = 4 by omega) with rfl | rfl | rfl | rfl | rfl
    · rw [show (((0 : Nat)) : Int) = 0 from rfl]
      have x0 : ∀ W, (Instr.index 36 (.agg #[.int .i64 rgb, .int .i64 v1, .int .i64 v2, .int .i64 v3]) (.int .i64 0)).run Tryd.prog W = .ok (.int .i64 rgb) W := fun _ => by kernel_rfl
      go_wp2_with fail
      refine (nearest_t _ _ ((H.out).keep h0)).mono ?_
      rintro e w1 ⟨rfl, hb1⟩
      have h1 := h0.trans (hb1.mono h0.size)
      clear hb1 h0
      go_wp2_with fail
      refine (rnearest_t _ _).mono ?_
      rintro e w2 ⟨rfl, hb2⟩
      have h2 := h1.trans (hb2.mono h1.size)
      clear hb2 h1
      go_wp2
      go_roundw
      case rel => exact ⟨1, by omega, rfl, h2⟩
      case measure => simp [intOf]
    · rw [show (((1 : Nat)) : Int) = 1 from rfl]
      have x0 : ∀ W, (Instr.index 36 (.agg #[.int .i64 rgb, .int .i64 v1, .int .i64 v2, .int .i64 v3]) (.int .i64 1)).run Tryd.prog W = .ok (.int .i64 v1) W := fun _ => by kernel_rfl
      go_wp2_with fail
      refine (nearest_t _ _ ((H.out).keep h0)).mono ?_
      rintro e w1 ⟨rfl, hb1⟩
      have h1 := h0.trans (hb1.mono h0.size)
      clear hb1 h0
      go_wp2_with fail
      refine (rnearest_t _ _).mono ?_
      rintro e w2 ⟨rfl, hb2⟩
      have h2 := h1.trans (hb2.mono h1.size)
      clear hb2 h1
      go_wp2
      go_roundw
      case rel => exact ⟨2, by omega, rfl, h2⟩
      case measure => simp [intOf]
    · rw [show (((2 : Nat)) : Int) = 2 from rfl]
      have x0 : ∀ W, (Instr.index 36 (.agg #[.int .i64 rgb, .int .i64 v1, .int .i64 v2, .int .i64 v3]) (.int .i64 2)).run Tryd.prog W = .ok (.int .i64 v2) W := fun _ => by kernel_rfl
      go_wp2_with fail
      refine (nearest_t _ _ ((H.out).keep h0)).mono ?_
      rintro e w1 ⟨rfl, hb1⟩
      have h1 := h0.trans (hb1.mono h0.size)
      clear hb1 h0
      go_wp2_with fail
      refine (rnearest_t _ _).mono ?_
      rintro e w2 ⟨rfl, hb2⟩
      have h2 := h1.trans (hb2.mono h1.size)
      clear hb2 h1
      go_wp2
      go_roundw
      case rel => exact ⟨3, by omega, rfl, h2⟩
      case measure => simp [intOf]
    · rw [show (((3 : Nat)) : Int) = 3 from rfl]
      have x0 : ∀ W, (Instr.index 36 (.agg #[.int .i64 rgb, .int .i64 v1, .int .i64 v2, .int .i64 v3]) (.int .i64 3)).run Tryd.prog W = .ok (.int .i64 v3) W := fun _ => by kernel_rfl
      go_wp2_with fail
      refine (nearest_t _ _ ((H.out).keep h0)).mono ?_
      rintro e w1 ⟨rfl, hb1⟩
      have h1 := h0.trans (hb1.mono h0.size)
      clear hb1 h0
      go_wp2_with fail
      refine (rnearest_t _ _).mono ?_
      rintro e w2 ⟨rfl, hb2⟩
      have h2 := h1.trans (hb2.mono h1.size)
      clear hb2 h1
      go_wp2
      go_roundw
      case rel => exact ⟨4, by omega, rfl, h2⟩
      case measure => simp [intOf]
    · rw [show (((4 : Nat)) : Int) = 4 from rfl]
      go_wp2_with fail
      refine (works_any _ ((H.out).keep h0)).mono ?_
      rintro e w1 ⟨rfl, hb1⟩
      have h1 := h0.trans (hb1.mono h0.size)
      clear hb1 h0
      go_wp2
      go_ret
      exact ⟨rfl, h1⟩
end Go.Proofs.YtddgigiajenmkaaDoor.Col
