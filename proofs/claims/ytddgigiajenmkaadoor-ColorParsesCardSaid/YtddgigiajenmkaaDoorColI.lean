/-
  Contract of the reference's Text of layer 3.
-/
import Derived.Test.YtddgigiajenmkaaDoorColH
namespace Go.Proofs.YtddgigiajenmkaaDoor.Col
open Go.RowKit Utf

/-- the first digits of a number -/
def hx (x : Nat) : Nat → ByteArray
  | 0 => ⟨#[]⟩
  | 1 => ⟨#[hexD (x / 1048576 % 16)]⟩
  | 2 => ⟨#[hexD (x / 1048576 % 16), hexD (x / 65536 % 16)]⟩
  | 3 => ⟨#[hexD (x / 1048576 % 16), hexD (x / 65536 % 16), hexD (x / 4096 % 16)]⟩
  | 4 => ⟨#[hexD (x / 1048576 % 16), hexD (x / 65536 % 16), hexD (x / 4096 % 16), hexD (x / 256 % 16)]⟩
  | 5 => ⟨#[hexD (x / 1048576 % 16), hexD (x / 65536 % 16), hexD (x / 4096 % 16), hexD (x / 256 % 16), hexD (x / 16 % 16)]⟩
  | _ => ⟨#[hexD (x / 1048576 % 16), hexD (x / 65536 % 16), hexD (x / 4096 % 16), hexD (x / 256 % 16), hexD (x / 16 % 16), hexD (x % 16)]⟩
theorem ext_hex (d : Nat) (h : d < 16) : hexS.extract d (d + 1) = ⟨#[hexD d]⟩ := by
  have : ∀ d : Fin 16, (hexS.extract d.val (d.val + 1)).data = #[hexD d.val] := by decide +kernel
  have := this ⟨d, h⟩
  cases hh : hexS.extract d (d + 1) with
  | mk a => rw [hh] at this; exact congrArg ByteArray.mk this
theorem hx_0 (x d : Nat) (hd : x / 1048576 % 16 = d) (h : d < 16) : hx x 0 ++ hexS.extract d (d + 1) = hx x 1 := by
  rw [ext_hex d h, ← hd]; rfl
theorem hx_1 (x d : Nat) (hd : x / 65536 % 16 = d) (h : d < 16) : hx x 1 ++ hexS.extract d (d + 1) = hx x 2 := by
  rw [ext_hex d h, ← hd]; rfl
theorem hx_2 (x d : Nat) (hd : x / 4096 % 16 = d) (h : d < 16) : hx x 2 ++ hexS.extract d (d + 1) = hx x 3 := by
  rw [ext_hex d h, ← hd]; rfl
theorem hx_3 (x d : Nat) (hd : x / 256 % 16 = d) (h : d < 16) : hx x 3 ++ hexS.extract d (d + 1) = hx x 4 := by
  rw [ext_hex d h, ← hd]; rfl
theorem hx_4 (x d : Nat) (hd : x / 16 % 16 = d) (h : d < 16) : hx x 4 ++ hexS.extract d (d + 1) = hx x 5 := by
  rw [ext_hex d h, ← hd]; rfl
theorem hx_5 (x d : Nat) (hd : x % 16 = d) (h : d < 16) : hx x 5 ++ hexS.extract d (d + 1) = hx x 6 := by
  rw [ext_hex d h, ← hd]; rfl
theorem hx_end (x : Nat) : (⟨#[114, 103, 98, 58]⟩ : ByteArray) ++ (hx x 6).extract 0 2 ++ ⟨#[47]⟩ ++ (hx x 6).extract 2 4 ++ ⟨#[47]⟩ ++ (hx x 6).extract 4 6 = ⟨(txt x).toArray⟩ := rfl

set_option maxRecDepth 100000 in
set_option maxHeartbeats 4000000 in
theorem rtext_some (k n : Int) (x : Nat) (w : World) (he : errC k n = 0) (hr : rgbC k n = some (x : Int)) (hxb : x ≤ 16777215) : Calls Tryd.prog 13 #[colV k n] w fun e w' => e = .returned (.tuple #[.string ⟨(txt x).toArray⟩, .int .i64 0]) ∧ Below w.heap.size w w' := by
  have HE := Lib.hid he; clear he
  have HR := Lib.hid (rgbV_is k n x hr); clear hr
  unfold colV
  go_enter Tryd.func13, Tryd.ntmps13
  go_wp2_with fail
  refine (rcheck_any k n _).mono ?_
  rw [HE.out]
  rintro e w1 ⟨rfl, hb1⟩
  have c0 := (hb1.cell (p := ⟨w.heap.size, 0, none⟩) (by simp))
  have c1 := (hb1.cell (p := ⟨w.heap.size, 1, none⟩) (by simp))
  have hb2 : Below w.heap.size w w1 := (below_box _ _).trans (hb1.mono (by simp))
  go_wp2_with fail
  refine (rrgb_any k n _).mono ?_
  rw [HR.out]
  rintro e w2 ⟨rfl, hb3⟩
  have hb4 := hb2.trans (hb3.mono hb2.size)
  clear c0 c1 hb1 hb2 hb3
  go_wp2_with fail
  go_loop [6, 7] (fun s i => ∃ k : Nat, k ≤ 6 ∧ i = .int .i64 (k : Int) ∧ s = .string (hx x k)) (fun _ i => 6 - (intOf i).toNat)
  case atStart => exact ⟨0, by omega, rfl, rfl⟩
  case round =>
    obtain ⟨k, hk, rfl, rfl⟩ := hrel
    rcases (show k = 0 ∨ k = 1 ∨ k = 2 ∨ k = 3 ∨ k = 4 ∨ k = 5 ∨ k = 6 by omega) with rfl | rfl | rfl | rfl | rfl | rfl | rfl
    · rw [show ((0 : Nat) : Int) = 0 from rfl]
      have x0 : ∀ W, (Instr.index 55 (.agg #[.int .i64 1048576, .int .i64 65536, .int .i64 4096, .int .i64 256, .int .i64 16, .int .i64 1]) (.int .i64 0)).run Tryd.prog W = .ok (.int .i64 1048576) W := fun _ => by kernel_rfl
      obtain ⟨d, hd⟩ : ∃ d, x / 1048576 % 16 = d := ⟨_, rfl⟩
      have hd1 : (x : Int) / 1048576 % 16 = (d : Int) := by omega
      have hd2 : d < 16 := by omega
      have hs := Lib.hid (hx_0 x d hd hd2)
      have hz : (hx x 0).size = 0 := rfl
      have hm : min (d + 1) 16 - d = 1 := by omega
      generalize hx x 0 = S at hs hz ⊢
      clear hd
      go_wp2
      go_round
      case rel => exact ⟨1, by omega, rfl, congrArg Value.string hs.out⟩
      case measure => simp [intOf]
    · rw [show ((1 : Nat) : Int) = 1 from rfl]
      have x0 : ∀ W, (Instr.index 55 (.agg #[.int .i64 1048576, .int .i64 65536, .int .i64 4096, .int .i64 256, .int .i64 16, .int .i64 1]) (.int .i64 1)).run Tryd.prog W = .ok (.int .i64 65536) W := fun _ => by kernel_rfl
      obtain ⟨d, hd⟩ : ∃ d, x / 65536 % 16 = d := ⟨_, rfl⟩
      have hd1 : (x : Int) / 65536 % 16 = (d : Int) := by omega
      have hd2 : d < 16 := by omega
      have hs := Lib.hid (hx_1 x d hd hd2)
      have hz : (hx x 1).size = 1 := rfl
      have hm : min (d + 1) 16 - d = 1 := by omega
      generalize hx x 1 = S at hs hz ⊢
      clear hd
      go_wp2
      go_round
      case rel => exact ⟨2, by omega, rfl, congrArg Value.string hs.out⟩
      case measure => simp [intOf]
    · rw [show ((2 : Nat) : Int) = 2 from rfl]
      have x0 : ∀ W, (Instr.index 55 (.agg #[.int .i64 1048576, .int .i64 65536, .int .i64 4096, .int .i64 256, .int .i64 16, .int .i64 1]) (.int .i64 2)).run Tryd.prog W = .ok (.int .i64 4096) W := fun _ => by kernel_rfl
      obtain ⟨d, hd⟩ : ∃ d, x / 4096 % 16 = d := ⟨_, rfl⟩
      have hd1 : (x : Int) / 4096 % 16 = (d : Int) := by omega
      have hd2 : d < 16 := by omega
      have hs := Lib.hid (hx_2 x d hd hd2)
      have hz : (hx x 2).size = 2 := rfl
      have hm : min (d + 1) 16 - d = 1 := by omega
      generalize hx x 2 = S at hs hz ⊢
      clear hd
      go_wp2
      go_round
      case rel => exact ⟨3, by omega, rfl, congrArg Value.string hs.out⟩
      case measure => simp [intOf]
    · rw [show ((3 : Nat) : Int) = 3 from rfl]
      have x0 : ∀ W, (Instr.index 55 (.agg #[.int .i64 1048576, .int .i64 65536, .int .i64 4096, .int .i64 256, .int .i64 16, .int .i64 1]) (.int .i64 3)).run Tryd.prog W = .ok (.int .i64 256) W := fun _ => by kernel_rfl
      obtain ⟨d, hd⟩ : ∃ d, x / 256 % 16 = d := ⟨_, rfl⟩
      have hd1 : (x : Int) / 256 % 16 = (d : Int) := by omega
      have hd2 : d < 16 := by omega
      have hs := Lib.hid (hx_3 x d hd hd2)
      have hz : (hx x 3).size = 3 := rfl
      have hm : min (d + 1) 16 - d = 1 := by omega
      generalize hx x 3 = S at hs hz ⊢
      clear hd
      go_wp2
      go_round
      case rel => exact ⟨4, by omega, rfl, congrArg Value.string hs.out⟩
      case measure => simp [intOf]
    · rw [show ((4 : Nat) : Int) = 4 from rfl]
      have x0 : ∀ W, (Instr.index 55 (.agg #[.int .i64 1048576, .int .i64 65536, .int .i64 4096, .int .i64 256, .int .i64 16, .int .i64 1]) (.int .i64 4)).run Tryd.prog W = .ok (.int .i64 16) W := fun _ => by kernel_rfl
      obtain ⟨d, hd⟩ : ∃ d, x / 16 % 16 = d := ⟨_, rfl⟩
      have hd1 : (x : Int) / 16 % 16 = (d : Int) := by omega
      have hd2 : d < 16 := by omega
      have hs := Lib.hid (hx_4 x d hd hd2)
      have hz : (hx x 4).size = 4 := rfl
      have hm : min (d + 1) 16 - d = 1 := by omega
      generalize hx x 4 = S at hs hz ⊢
      clear hd
      go_wp2
      go_round
      case rel => exact ⟨5, by omega, rfl, congrArg Value.string hs.out⟩
      case measure => simp [intOf]
    · rw [show ((5 : Nat) : Int) = 5 from rfl]
      have x0 : ∀ W, (Instr.index 55 (.agg #[.int .i64 1048576, .int .i64 65536, .int .i64 4096, .int .i64 256, .int .i64 16, .int .i64 1]) (.int .i64 5)).run Tryd.prog W = .ok (.int .i64 1) W := fun _ => by kernel_rfl
      obtain ⟨d, hd⟩ : ∃ d, x % 16 = d := ⟨_, rfl⟩
      have hd1 : (x : Int) % 16 = (d : Int) := by omega
      have hd2 : d < 16 := by omega
      have hs := Lib.hid (hx_5 x d hd hd2)
      have hz : (hx x 5).size = 5 := rfl
      have hm : min (d + 1) 16 - d = 1 := by omega
      generalize hx x 5 = S at hs hz ⊢
      clear hd
      go_wp2
      go_round
      case rel => exact ⟨6, by omega, rfl, congrArg Value.string hs.out⟩
      case measure => simp [intOf]
    · rw [show ((6 : Nat) : Int) = 6 from rfl]
      have hz : (hx x 6).size = 6 := rfl
      have he := Lib.hid (hx_end x)
      generalize hx x 6 = S at hz he ⊢
      go_wp2_with fail
      go_quiet (fail)
      go_wp2
      go_ret2
      exact ⟨by rw [← he.out]; rfl, below_drewN' hb4 _⟩

set_option maxRecDepth 100000 in
set_option maxHeartbeats 4000000 in
theorem rtext_any (k n : Int) (w : World) : Calls Tryd.prog 13 #[colV k n] w fun e w' => e = .returned (txtV k n) ∧ Below w.heap.size w w' := by
  cases ho : okC k n with
  | false =>
    have hf := Lib.hid (txtV_bad k n ho)
    have he := Lib.hid (show errC k n = 130 by rw [errC, ho]; rfl)
    clear ho
    unfold colV
    go_enter Tryd.func13, Tryd.ntmps13
    go_wp2_with fail
    refine (rcheck_any k n _).mono ?_
    rw [he.out]
    rintro e w1 ⟨rfl, hb1⟩
    go_wp2
    go_ret2
    exact ⟨congrArg _ hf.out, (below_box _ _).trans (hb1.mono (by simp))⟩
  | true =>
    have he := Lib.hid (show errC k n = 0 by rw [errC, ho]; rfl)
    by_cases hk : k = 0
    · subst hk
      obtain rfl : n = 0 := by have := ok_cases 0 n ho; omega
      have hf := Lib.hid (txtV_none)
      have hr := Lib.hid (rgbV_none 0 0 rfl)
      clear ho
      unfold colV
      go_enter Tryd.func13, Tryd.ntmps13
      go_wp2_with fail
      refine (rcheck_any 0 0 _).mono ?_
      rw [he.out]
      rintro e w1 ⟨rfl, hb1⟩
      have c0 := (hb1.cell (p := ⟨w.heap.size, 0, none⟩) (by simp))
      have c1 := (hb1.cell (p := ⟨w.heap.size, 1, none⟩) (by simp))
      have hb2 : Below w.heap.size w w1 := (below_box _ _).trans (hb1.mono (by simp))
      go_wp2_with fail
      refine (rrgb_any 0 0 _).mono ?_
      rw [← hr.out]
      rintro e w2 ⟨rfl, hb3⟩
      go_wp2
      go_ret2
      exact ⟨congrArg _ hf.out, hb2.trans (hb3.mono hb2.size)⟩
    · obtain ⟨x, hx⟩ : ∃ x : Nat, rgbC k n = some (x : Int) := by
        rcases ok_cases k n ho with ⟨rfl, _⟩ | ⟨rfl, h1, h2⟩ | ⟨rfl, h1, h2⟩
        · omega
        · refine ⟨(pal n.toNat).toNat, ?_⟩
          rw [rgbC, ho, if_pos rfl, if_neg (by omega), if_pos rfl, Int.toNat_of_nonneg (pal_bd _ (by omega)).1]
        · refine ⟨n.toNat, ?_⟩
          rw [rgbC, ho, if_pos rfl, if_neg (by omega), if_neg (by omega), Int.toNat_of_nonneg h1]
      have hxb := (rgbC_bd k n x hx).2
      rw [← txtV_some k n x ho hk hx]
      exact rtext_some k n x w he.out hx (by omega)
end Go.Proofs.YtddgigiajenmkaaDoor.Col
