/-
  Contract of the laws' own distance far; that a number at distance 0 is the number.
-/
import Derived.Test.YtddgigiajenmkaaDoorColF
namespace Go.Proofs.YtddgigiajenmkaaDoor.Col
open Go.RowKit Utf

/-- the distance over the first components, blue first -/
def fk (a b : Int) : Nat → Int
  | 0 => 0
  | 1 => (a % 256 - b % 256) * (a % 256 - b % 256)
  | 2 => (a % 256 - b % 256) * (a % 256 - b % 256) + (a / 256 % 256 - b / 256 % 256) * (a / 256 % 256 - b / 256 % 256)
  | _ => dst a b
theorem fk_w (s d : Int) (h0 : 0 ≤ s) (h1 : s ≤ 1000000) (d0 : -255 ≤ d) (d1 : d ≤ 255) : wrap64 (s + wrap64 (d * d)) = s + d * d := by
  have := sq_bd d d0 d1
  generalize d * d = q at *
  rw [w64_in q (by omega), w64_in _ (by omega)]
theorem fk_bd (a b : Int) : (0 ≤ fk a b 1 ∧ fk a b 1 ≤ 65025) ∧ 0 ≤ fk a b 2 ∧ fk a b 2 ≤ 130050 := by
  have h1 := sq_bd (a % 256 - b % 256) (by omega) (by omega)
  have h2 := sq_bd (a / 256 % 256 - b / 256 % 256) (by omega) (by omega)
  refine ⟨h1, ?_⟩
  show 0 ≤ (a % 256 - b % 256) * (a % 256 - b % 256) + (a / 256 % 256 - b / 256 % 256) * (a / 256 % 256 - b / 256 % 256) ∧ (a % 256 - b % 256) * (a % 256 - b % 256) + (a / 256 % 256 - b / 256 % 256) * (a / 256 % 256 - b / 256 % 256) ≤ 130050
  omega
theorem fk_0 (a b : Int) : wrap64 (wrap64 ((a % 256 - b % 256) * (a % 256 - b % 256))) = fk a b 1 := by
  have h1 := sq_bd (a % 256 - b % 256) (by omega) (by omega)
  show _ = (a % 256 - b % 256) * (a % 256 - b % 256)
  generalize (a % 256 - b % 256) * (a % 256 - b % 256) = q at *
  rw [w64_in q (by omega), w64_in q (by omega)]
theorem fk_1 (a b : Int) : wrap64 (fk a b 1 + wrap64 ((a / 256 % 256 - b / 256 % 256) * (a / 256 % 256 - b / 256 % 256))) = fk a b 2 := by
  have h := fk_bd a b
  rw [fk_w _ _ (by omega) (by omega) (by omega) (by omega)]; rfl
theorem fk_2 (a b : Int) (a0 : 0 ≤ a) (a1 : a ≤ 16777215) (b0 : 0 ≤ b) (b1 : b ≤ 16777215) : wrap64 (fk a b 2 + wrap64 ((a / 65536 % 256 - b / 65536 % 256) * (a / 65536 % 256 - b / 65536 % 256))) = fk a b 3 := by
  have h := fk_bd a b
  rw [fk_w _ _ (by omega) (by omega) (by omega) (by omega), show a / 65536 % 256 = a / 65536 by omega, show b / 65536 % 256 = b / 65536 by omega]
  show (a % 256 - b % 256) * (a % 256 - b % 256) + (a / 256 % 256 - b / 256 % 256) * (a / 256 % 256 - b / 256 % 256) + _ = dst a b
  unfold dst
  omega
theorem sq_zero (x : Int) (h : x * x = 0) : x = 0 := by
  rcases Int.mul_eq_zero.1 h with h | h <;> exact h
theorem dst_zero (a b : Int) (a0 : 0 ≤ a) (a1 : a ≤ 16777215) (b0 : 0 ≤ b) (b1 : b ≤ 16777215) (h : dst a b ≤ 0) : a = b := by
  have h1 := sq_bd (a / 65536 - b / 65536) (by omega) (by omega)
  have h2 := sq_bd (a / 256 % 256 - b / 256 % 256) (by omega) (by omega)
  have h3 := sq_bd (a % 256 - b % 256) (by omega) (by omega)
  unfold dst at h
  have e1 := sq_zero (a / 65536 - b / 65536) (by omega)
  have e2 := sq_zero (a / 256 % 256 - b / 256 % 256) (by omega)
  have e3 := sq_zero (a % 256 - b % 256) (by omega)
  omega
theorem dst_self (a : Int) : dst a a = 0 := by unfold dst; simp
/-- the nearest color of a palette color -/
theorem near_own (i : Nat) (h : i < 256) : nearL (pal i) 255 ≤ i ∧ pal (nearL (pal i) 255) = pal i := by
  have hb := nearL_best (pal i) 255 i (by omega)
  have hl := nearL_le (pal i) 255
  have pi := pal_bd i h
  have pm := pal_bd (nearL (pal i) 255) (by omega)
  rw [dst_self] at hb
  have h0 := (dst_bd (pal i) (pal (nearL (pal i) 255)) pi pm).1
  refine ⟨?_, (dst_zero _ _ pi.1 pi.2 pm.1 pm.2 hb.1).symm⟩
  rcases Nat.lt_or_ge i (nearL (pal i) 255) with hlt | hge
  · have := hb.2 hlt; omega
  · exact hge
set_option maxRecDepth 100000 in
set_option maxHeartbeats 4000000 in
theorem far_any (a b : Int) (w : World) (a0 : 0 ≤ a) (a1 : a ≤ 16777215) (b0 : 0 ≤ b) (b1 : b ≤ 16777215) : Calls Tryd.prog 23 #[.int .i64 a, .int .i64 b] w fun e w' => e = .returned (.int .i64 (dst a b)) ∧ w = w' := by
  have e0 := and255' a a0 (by omega)
  have e1 := and255' (a / 256) (by omega) (by omega)
  have e2 := and255' (a / 65536) (by omega) (by omega)
  have f0 := and255' b b0 (by omega)
  have f1 := and255' (b / 256) (by omega) (by omega)
  have f2 := and255' (b / 65536) (by omega) (by omega)
  go_enter Tryd.func23, Tryd.ntmps23
  go_wp2_with fail
  go_loop [5, 6] (fun n i => ∃ k : Nat, k ≤ 3 ∧ i = .int .i64 (k : Int) ∧ n = .int .i64 (fk a b k)) (fun _ i => 3 - (intOf i).toNat)
  case atStart => exact ⟨0, by omega, rfl, rfl⟩
  case round =>
    obtain ⟨k, hk, rfl, rfl⟩ := hrel
    rcases (show k = 0 ∨ k = 1 ∨ k = 2 ∨ k = 3 by omega) with rfl | rfl | rfl | rfl
    · rw [show ((0 : Nat) : Int) = 0 from rfl, show fk a b 0 = 0 from rfl]
      go_wp2
      go_round
      case rel => exact ⟨1, by omega, rfl, congrArg (Value.int .i64) (fk_0 a b)⟩
      case measure => simp [intOf]
    · rw [show ((1 : Nat) : Int) = 1 from rfl]
      go_wp2
      go_round
      case rel => exact ⟨2, by omega, rfl, congrArg (Value.int .i64) (fk_1 a b)⟩
      case measure => simp [intOf]
    · rw [show ((2 : Nat) : Int) = 2 from rfl]
      go_wp2
      go_round
      case rel => exact ⟨3, by omega, rfl, congrArg (Value.int .i64) (fk_2 a b a0 a1 b0 b1)⟩
      case measure => simp [intOf]
    · rw [show ((3 : Nat) : Int) = 3 from rfl]
      go_wp2
      go_ret
      exact ⟨rfl, rfl⟩
end Go.Proofs.YtddgigiajenmkaaDoor.Col
