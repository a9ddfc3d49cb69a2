/-
  The walk of the law WidthCuts: it returns true, whatever its arguments; nothing that lay before the call has turned.
-/
import Derived.Test.YtneikcpejejagaaDoorWidH
namespace Go.Proofs.YtneikcpejejagaaDoor.Wid
open Go.RowKit Utf

theorem rcut_is (s a b : ByteArray) (k : Int) (w : World) (hs : s.size ≤ 40000) (h1 : textL ((codesL s.data.toList).take (cutN (codesL s.data.toList) k)) = a.data.toList) (h2 : textL ((codesL s.data.toList).drop (cutN (codesL s.data.toList) k)) = b.data.toList) :
    Calls Tryd.prog 12 #[.string s, .int .i64 k] w fun e w' => e = .returned (.tuple #[.string a, .string b]) ∧ Below w.heap.size w w' := by
  have := rcut_any s k w hs
  rw [ba_list h1, ba_list h2] at this
  exact this
theorem ba_ex (l : List UInt8) : ∃ a : ByteArray, l = a.data.toList := ⟨⟨l.toArray⟩, by simp⟩

set_option maxRecDepth 100000 in
set_option maxHeartbeats 8000000 in
theorem wcuts_any (s : ByteArray) (c : Int) (w : World) (h : Tb w) (hs : s.size ≤ 9223372036854775807) : Calls Tryd.prog 4 #[.string s, .int .i64 c] w fun e w' => e = .returned (.bool true) ∧ Below w.heap.size w w' := by
  have H := Lib.hid h; clear h
  rcases (show (s.size ≤ 150) ∨ (150 < s.size) by omega) with hc | hc
  · go_enter Tryd.func4, Tryd.ntmps4
    go_wp2_with fail
    generalize wrap64 (wrap64 ((IntKind.u64.wrap c).tmod 40) - 1) = z
    obtain ⟨q, hqe⟩ : ∃ q, s = q := ⟨_, rfl⟩
    have hq : q.size ≤ 150 := by rw [← hqe]; exact hc
    rw [hqe]
    clear hqe
    clear hc
    go_loopw [23] (fun i wr => ∃ k : Nat, k ≤ 2 ∧ i = .int .i64 k ∧ Hid (Below w.heap.size w wr)) (fun i _ => 2 - (intOf i).toNat)
    case atStart => exact ⟨0, by omega, rfl, Below.refl _ _⟩
    case round =>
      obtain ⟨k, hk, rfl, hid⟩ := hrel
      have h0 := hid.out
      clear hid
      rcases (show k = 0 ∨ k = 1 ∨ k = 2 by omega) with rfl | rfl | rfl
      · rw [show (((0 : Nat)) : Int) = 0 from rfl]
        have x0 : ∀ W, (Instr.index 27 (.agg #[.int .i64 c, .int .i64 z]) (.int .i64 0)).run Tryd.prog W = .ok (.int .i64 c) W := fun _ => by kernel_rfl
        obtain ⟨a, ha⟩ := ba_ex (textL ((codesL q.data.toList).take (cutN (codesL q.data.toList) c)))
        obtain ⟨b, hb⟩ := ba_ex (textL ((codesL q.data.toList).drop (cutN (codesL q.data.toList) c)))
        have Ha := Lib.hid ha; clear ha
        have Hb := Lib.hid hb; clear hb
        go_wp2_with fail
        refine (cut_is q a b c _ ((H.out).keep h0) (by omega) Ha.out Hb.out).mono ?_
        rintro e w1 ⟨rfl, hb1⟩
        have h1 := h0.trans (hb1.mono h0.size)
        clear hb1 h0
        go_wp2_with fail
        refine (rcut_is q a b c _ (by omega) Ha.out Hb.out).mono ?_
        rintro e w2 ⟨rfl, hb2⟩
        have h2 := h1.trans (hb2.mono h1.size)
        clear hb2 h1
        go_wp2
        go_roundw
        case rel => exact ⟨1, by omega, rfl, h2⟩
        case measure => simp [intOf]
      · rw [show (((1 : Nat)) : Int) = 1 from rfl]
        have x1 : ∀ W, (Instr.index 27 (.agg #[.int .i64 c, .int .i64 z]) (.int .i64 1)).run Tryd.prog W = .ok (.int .i64 z) W := fun _ => by kernel_rfl
        obtain ⟨a, ha⟩ := ba_ex (textL ((codesL q.data.toList).take (cutN (codesL q.data.toList) z)))
        obtain ⟨b, hb⟩ := ba_ex (textL ((codesL q.data.toList).drop (cutN (codesL q.data.toList) z)))
        have Ha := Lib.hid ha; clear ha
        have Hb := Lib.hid hb; clear hb
        go_wp2_with fail
        refine (cut_is q a b z _ ((H.out).keep h0) (by omega) Ha.out Hb.out).mono ?_
        rintro e w1 ⟨rfl, hb1⟩
        have h1 := h0.trans (hb1.mono h0.size)
        clear hb1 h0
        go_wp2_with fail
        refine (rcut_is q a b z _ (by omega) Ha.out Hb.out).mono ?_
        rintro e w2 ⟨rfl, hb2⟩
        have h2 := h1.trans (hb2.mono h1.size)
        clear hb2 h1
        go_wp2
        go_roundw
        case rel => exact ⟨2, by omega, rfl, h2⟩
        case measure => simp [intOf]
      · rw [show (((2 : Nat)) : Int) = 2 from rfl]
        go_wp2_with fail
        refine (wtext_any q _ ((H.out).keep h0) (by omega)).mono ?_
        rintro e w1 ⟨rfl, hb1⟩
        have h1 := h0.trans (hb1.mono h0.size)
        clear hb1 h0
        go_wp2_with fail
        refine (rwtext_any q _ (by omega)).mono ?_
        rintro e w2 ⟨rfl, hb2⟩
        have h2 := h1.trans (hb2.mono h1.size)
        clear hb2 h1
        go_wp2_with fail
        refine (works_any _ ((H.out).keep h2)).mono ?_
        rintro e w3 ⟨rfl, hb3⟩
        go_wp2
        go_ret
        exact ⟨rfl, h2.trans (hb3.mono h2.size)⟩
  · go_enter Tryd.func4, Tryd.ntmps4
    go_wp2_with fail
    generalize wrap64 (wrap64 ((IntKind.u64.wrap c).tmod 40) - 1) = z
    obtain ⟨q, hqe⟩ : ∃ q, s.extract 0 150 = q := ⟨_, rfl⟩
    have hq : q.size ≤ 150 := by rw [← hqe, ByteArray.size_extract]; omega
    rw [hqe]
    clear hqe
    go_loopw [23] (fun i wr => ∃ k : Nat, k ≤ 2 ∧ i = .int .i64 k ∧ Hid (Below w.heap.size w wr)) (fun i _ => 2 - (intOf i).toNat)
    case atStart => exact ⟨0, by omega, rfl, Below.refl _ _⟩
    case round =>
      obtain ⟨k, hk, rfl, hid⟩ := hrel
      have h0 := hid.out
      clear hid
      rcases (show k = 0 ∨ k = 1 ∨ k = 2 by omega) with rfl | rfl | rfl
      · rw [show (((0 : Nat)) : Int) = 0 from rfl]
        have x0 : ∀ W, (Instr.index 27 (.agg #[.int .i64 c, .int .i64 z]) (.int .i64 0)).run Tryd.prog W = .ok (.int .i64 c) W := fun _ => by kernel_rfl
        obtain ⟨a, ha⟩ := ba_ex (textL ((codesL q.data.toList).take (cutN (codesL q.data.toList) c)))
        obtain ⟨b, hb⟩ := ba_ex (textL ((codesL q.data.toList).drop (cutN (codesL q.data.toList) c)))
        have Ha := Lib.hid ha; clear ha
        have Hb := Lib.hid hb; clear hb
        go_wp2_with fail
        refine (cut_is q a b c _ ((H.out).keep h0) (by omega) Ha.out Hb.out).mono ?_
        rintro e w1 ⟨rfl, hb1⟩
        have h1 := h0.trans (hb1.mono h0.size)
        clear hb1 h0
        go_wp2_with fail
        refine (rcut_is q a b c _ (by omega) Ha.out Hb.out).mono ?_
        rintro e w2 ⟨rfl, hb2⟩
        have h2 := h1.trans (hb2.mono h1.size)
        clear hb2 h1
        go_wp2
        go_roundw
        case rel => exact ⟨1, by omega, rfl, h2⟩
        case measure => simp [intOf]
      · rw [show (((1 : Nat)) : Int) = 1 from rfl]
        have x1 : ∀ W, (Instr.index 27 (.agg #[.int .i64 c, .int .i64 z]) (.int .i64 1)).run Tryd.prog W = .ok (.int .i64 z) W := fun _ => by kernel_rfl
        obtain ⟨a, ha⟩ := ba_ex (textL ((codesL q.data.toList).take (cutN (codesL q.data.toList) z)))
        obtain ⟨b, hb⟩ := ba_ex (textL ((codesL q.data.toList).drop (cutN (codesL q.data.toList) z)))
        have Ha := Lib.hid ha; clear ha
        have Hb := Lib.hid hb; clear hb
        go_wp2_with fail
        refine (cut_is q a b z _ ((H.out).keep h0) (by omega) Ha.out Hb.out).mono ?_
        rintro e w1 ⟨rfl, hb1⟩
        have h1 := h0.trans (hb1.mono h0.size)
        clear hb1 h0
        go_wp2_with fail
        refine (rcut_is q a b z _ (by omega) Ha.out Hb.out).mono ?_
        rintro e w2 ⟨rfl, hb2⟩
        have h2 := h1.trans (hb2.mono h1.size)
        clear hb2 h1
        go_wp2
        go_roundw
        case rel => exact ⟨2, by omega, rfl, h2⟩
        case measure => simp [intOf]
      · rw [show (((2 : Nat)) : Int) = 2 from rfl]
        go_wp2_with fail
        refine (wtext_any q _ ((H.out).keep h0) (by omega)).mono ?_
        rintro e w1 ⟨rfl, hb1⟩
        have h1 := h0.trans (hb1.mono h0.size)
        clear hb1 h0
        go_wp2_with fail
        refine (rwtext_any q _ (by omega)).mono ?_
        rintro e w2 ⟨rfl, hb2⟩
        have h2 := h1.trans (hb2.mono h1.size)
        clear hb2 h1
        go_wp2_with fail
        refine (works_any _ ((H.out).keep h2)).mono ?_
        rintro e w3 ⟨rfl, hb3⟩
        go_wp2
        go_ret
        exact ⟨rfl, h2.trans (hb3.mono h2.size)⟩
end Go.Proofs.YtneikcpejejagaaDoor.Wid
