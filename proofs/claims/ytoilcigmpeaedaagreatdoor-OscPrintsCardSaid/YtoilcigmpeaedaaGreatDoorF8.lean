/-
  UtfA
-/
import Derived.WalkKit
import Derived.WalkLawsBesides
import Derived.WalkSpells
import Derived.Laws.BitsAllLaws
import Derived.Test.YtoilcigmpeaedaaGreatDoorProg
import Derived.Test.YtoilcigmpeaedaaGreatDoorF0
namespace Go.Proofs.YtoilcigmpeaedaaGreatDoor.Utf
open Go.RowKit

theorem check_any (c : Int) (w : World) : Calls Tryz.prog 112 #[.int .i64 c] w fun e w' => e = .returned (.bool (chk c)) ∧ w = w' := by
  by_cases h1 : 0 ≤ c
  · by_cases h2 : c ≤ 1114111
    · by_cases h3 : c < 55296
      · have hf : chk c = true := by simp [chk, h1, h2, h3]
        go_enter Tryz.func112, Tryz.ntmps112
        go_wp2
        go_ret
        exact ⟨by first | rfl | (rw [hf]; rfl), rfl⟩
      · by_cases h4 : 57343 < c
        · have hf : chk c = true := by simp [chk, h1, h2, h4]
          go_enter Tryz.func112, Tryz.ntmps112
          go_wp2
          go_ret
          exact ⟨by first | rfl | (rw [hf]; rfl), rfl⟩
        · have hf : chk c = false := by simp [chk]; omega
          go_enter Tryz.func112, Tryz.ntmps112
          go_wp2
          go_ret
          exact ⟨by first | rfl | (rw [hf]; rfl), rfl⟩
    · have hf : chk c = false := by simp [chk]; omega
      go_enter Tryz.func112, Tryz.ntmps112
      go_wp2
      go_ret
      exact ⟨by first | rfl | (rw [hf]; rfl), rfl⟩
  · have hf : chk c = false := by simp [chk]; omega
    go_enter Tryz.func112, Tryz.ntmps112
    go_wp2
    go_ret
    exact ⟨by first | rfl | (rw [hf]; rfl), rfl⟩

theorem length_any (x a b c : Int) (w : World) : Calls Tryz.prog 131 #[.int .i64 x, .int .i64 a, .int .i64 b, .int .i64 c] w fun e w' => e = .returned (.int .i64 (len4 x a b c)) ∧ w = w' := by
  by_cases h1 : c ≤ x
  · have hf : len4 x a b c = 4 := by simp [len4, h1]
    go_enter Tryz.func131, Tryz.ntmps131
    go_wp2
    go_ret
    exact ⟨by first | rfl | (rw [hf]; rfl), rfl⟩
  · by_cases h2 : b ≤ x
    · have hf : len4 x a b c = 3 := by simp [len4, h1, h2]
      go_enter Tryz.func131, Tryz.ntmps131
      go_wp2
      go_ret
      exact ⟨by first | rfl | (rw [hf]; rfl), rfl⟩
    · by_cases h3 : a ≤ x
      · have hf : len4 x a b c = 2 := by simp [len4, h1, h2, h3]
        go_enter Tryz.func131, Tryz.ntmps131
        go_wp2
        go_ret
        exact ⟨by first | rfl | (rw [hf]; rfl), rfl⟩
      · have hf : len4 x a b c = 1 := by simp [len4, h1, h2, h3]
        go_enter Tryz.func131, Tryz.ntmps131
        go_wp2
        go_ret
        exact ⟨by first | rfl | (rw [hf]; rfl), rfl⟩

theorem codeLength_any (c : Int) (w : World) : Calls Tryz.prog 113 #[.int .i64 c] w fun e w' => e = .returned (.int .i64 (cl c)) ∧ w = w' := by
  go_enter Tryz.func113, Tryz.ntmps113
  go_wp2_with (go_at_call 131; refine (length_any _ _ _ _ _).mono ?_; rintro e w' ⟨rfl, rfl⟩)
  go_ret
  exact ⟨by first | rfl | (rw [hf]; rfl), rfl⟩

theorem fl_len4 (b : UInt8) : len4 (b.toNat : Int) 192 224 240 = (fl b : Int) := by
  unfold len4 fl
  by_cases h1 : 240 ≤ b.toNat
  · rw [if_pos h1, if_pos (by omega)]; rfl
  · rw [if_neg h1, if_neg (by omega)]
    by_cases h2 : 224 ≤ b.toNat
    · rw [if_pos h2, if_pos (by omega)]; rfl
    · rw [if_neg h2, if_neg (by omega)]
      by_cases h3 : 192 ≤ b.toNat
      · rw [if_pos h3, if_pos (by omega)]; rfl
      · rw [if_neg h3, if_neg (by omega)]; rfl

theorem firstLength_any (b : UInt8) (w : World) : Calls Tryz.prog 139 #[.int .u8 (b.toNat : Int)] w fun e w' => e = .returned (.int .i64 (fl b : Int)) ∧ w = w' := by
  have hb : (b.toNat : Int) < 256 := by have := b.toNat_lt; omega
  go_enter Tryz.func139, Tryz.ntmps139
  go_wp2_with (go_at_call 131; refine (length_any _ _ _ _ _).mono ?_; rintro e w' ⟨rfl, rfl⟩)
  go_ret
  exact ⟨by rw [← fl_len4]; rfl, rfl⟩

theorem notc_bits : ∀ n : Fin 256, (bits .and .u8 (n.val : Int) 192 != 128) = !(decide (128 ≤ n.val) && decide (n.val < 192)) := by decide +kernel
theorem notc_eq (b : UInt8) : (bits .and .u8 (b.toNat : Int) 192 != 128) = notc b := notc_bits ⟨b.toNat, b.toNat_lt⟩
theorem notContinuation_any (b : UInt8) (w : World) : Calls Tryz.prog 141 #[.int .u8 (b.toNat : Int)] w fun e w' => e = .returned (.bool (notc b)) ∧ w = w' := by
  go_enter Tryz.func141, Tryz.ntmps141
  go_wp2
  go_ret
  exact ⟨by rw [notc_eq]; rfl, rfl⟩

theorem fits_any (x n : Int) (w : World) : Calls Tryz.prog 143 #[.int .i64 x, .int .i64 n] w fun e w' => e = .returned (.bool (fitsB x n)) ∧ w = w' := by
  cases hc : chk x with
  | false =>
    have hf : fitsB x n = false := by simp [fitsB, hc]
    go_enter Tryz.func143, Tryz.ntmps143
    go_wp2_with (first
      | (go_at_call 112; refine (check_any _ _).mono ?_; rintro e w' ⟨rfl, rfl⟩)
      | (go_at_call 113; refine (codeLength_any _ _).mono ?_; rintro e w' ⟨rfl, rfl⟩))
    go_ret
    exact ⟨by first | rfl | (rw [hf]; rfl), rfl⟩
  | true =>
    have hf : fitsB x n = (cl x == n) := by simp [fitsB, hc]; rfl
    go_enter Tryz.func143, Tryz.ntmps143
    go_wp2_with (first
      | (go_at_call 112; refine (check_any _ _).mono ?_; rintro e w' ⟨rfl, rfl⟩)
      | (go_at_call 113; refine (codeLength_any _ _).mono ?_; rintro e w' ⟨rfl, rfl⟩))
    go_ret
    exact ⟨by first | rfl | (rw [hf]; rfl), rfl⟩
end Go.Proofs.YtoilcigmpeaedaaGreatDoor.Utf
