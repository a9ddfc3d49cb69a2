/-
  Contract of the utf package's span.
-/
import Derived.Test.YtoilcigmpeaedaaGreatDoorUtfB
namespace Go.Proofs.YtoilcigmpeaedaaGreatDoor.Utf
open Go.RowKit

theorem and63_bits : ∀ n : Fin 256, bits .and .u8 (n.val : Int) 63 = ((n.val % 64 : Nat) : Int) := by decide +kernel
theorem and63 (b : UInt8) : bits .and .u8 (b.toNat : Int) 63 = ((b.toNat % 64 : Nat) : Int) := and63_bits ⟨b.toNat, b.toNat_lt⟩
theorem ofInt64 (a : Nat) (ha : a < 9223372036854775808) : (BitVec.ofInt 64 (a : Int)).toNat = a := by
  rw [BitVec.ofInt_natCast, BitVec.toNat_ofNat]; exact Nat.mod_eq_of_lt (by omega)
theorem or_i64 (a b : Nat) (ha : a < 9223372036854775808) (hb : b < 9223372036854775808) : bits .or .i64 (a : Int) (b : Int) = ((a ||| b : Nat) : Int) := by
  have hx : a ||| b < 2 ^ 63 := Nat.or_lt_two_pow (by omega) (by omega)
  show IntKind.i64.wrap ((BitVec.ofInt 64 (a : Int) ||| BitVec.ofInt 64 (b : Int)).toNat : Int) = _
  rw [BitVec.toNat_or, ofInt64 a ha, ofInt64 b hb, IntKind.wrap_i64]
  omega
theorem or_add (v q k : Nat) (hq : q < 2 ^ k) : (v * 2 ^ k) ||| q = v * 2 ^ k + q := by
  rw [Nat.mul_comm, ← Nat.two_pow_add_eq_or_of_lt hq]
theorem or_i64_6 (v q : Nat) (hv : v < 1000000000) (hq : q < 64) : bits .or .i64 ((v : Int) * 64) (q : Int) = ((v * 64 + q : Nat) : Int) := by
  have h := or_i64 (v * 64) q (by omega) (by omega)
  rw [or_add v q 6 hq] at h
  have e : ((v * 64 : Nat) : Int) = (v : Int) * 64 := by omega
  rw [e] at h
  exact h

theorem val_lt (a : Nat) (l : List UInt8) : val a l < (a + 1) * 64 ^ l.length := by
  induction l generalizing a with
  | nil => simp [val]
  | cons x r ih =>
    have h := ih (a * 64 + x.toNat % 64)
    have h2 : (a * 64 + x.toNat % 64 + 1) * 64 ^ r.length ≤ ((a + 1) * 64) * 64 ^ r.length := Nat.mul_le_mul_right _ (by omega)
    simp only [val, List.length_cons, Nat.pow_succ]
    have h3 : (a + 1) * (64 ^ r.length * 64) = ((a + 1) * 64) * 64 ^ r.length := by rw [Nat.mul_comm (64 ^ r.length) 64, Nat.mul_assoc]
    omega
theorem val_take_succ (a : Nat) (l : List UInt8) (k : Nat) (b : UInt8) (h : l[k]? = some b) : val a (l.take (k + 1)) = val a (l.take k) * 64 + b.toNat % 64 := by
  rw [List.take_add_one, h]; exact val_snoc _ _ _

theorem or_d (v d : Nat) (hv : v < 1000000000) (hd : d ≤ 3) : bits .or .i64 ((v * 64 ^ d : Nat) : Int) ((64 ^ d - 1 : Nat) : Int) = ((v * 64 ^ d + (64 ^ d - 1) : Nat) : Int) := by
  have e : 64 ^ d = 2 ^ (6 * d) := by rw [Nat.pow_mul]
  have h64 : 64 ^ d ≤ 64 ^ 3 := Nat.pow_le_pow_right (by omega) hd
  have hpos : 0 < 64 ^ d := Nat.pow_pos (by omega)
  have h1 : v * 64 ^ d ≤ 1000000000 * 64 ^ 3 := Nat.mul_le_mul (by omega) h64
  rw [or_i64 _ _ (by omega) (by omega), e, or_add v _ (6 * d) (by rw [← e]; omega)]
theorem span_vals (b : UInt8) (r : List UInt8) (mm n vv k d : Nat) (hn : n = fl b) (hm : mm = mk n) (hv : vv = val (b.toNat - mm) (r.take k)) (hk : r.length ≤ k) (hd : (n : Int) - ((r.length : Int) + 1) = (d : Int)) (hd3 : d ≤ 3) :
    ((low (b :: r) : Nat) : Int) = ((vv * 64 ^ d : Nat) : Int) ∧ ((high (b :: r) : Nat) : Int) = ((vv * 64 ^ d + (64 ^ d - 1) : Nat) : Int) := by
  have e : fl b - (r.length + 1) = d := by omega
  rw [List.take_of_length_le hk] at hv
  subst hm; subst hn
  have hl : low (b :: r) = vv * 64 ^ d := by simp only [low, e, hv]
  refine ⟨by rw [hl], ?_⟩
  have hh : high (b :: r) = low (b :: r) + (64 ^ d - 1) := by simp only [high, e]
  rw [hh, hl]
theorem ret2 {a b c d : Int} (h1 : a = c) (h2 : b = d) : Ending.returned (.tuple #[.int .i64 a, .int .i64 b]) = .returned (.tuple #[.int .i64 c, .int .i64 d]) := by rw [h1, h2]

set_option maxRecDepth 100000 in
set_option maxHeartbeats 1000000 in
theorem span_any (A : Option Addr) (c : Nat) (b : UInt8) (r : List UInt8) (w : World) (h : Rd w A (cB (b :: r))) (hm : Mk w) (hl : r.length + 1 ≤ fl b) (hc : r.length + 1 ≤ c) :
    Calls Tryz.prog 142 #[.slice A (r.length + 1) c, .int .i64 (fl b : Int)] w fun e w' => e = .returned (.tuple #[.int .i64 (low (b :: r) : Int), .int .i64 (high (b :: r) : Int)]) ∧ Below w.heap.size w w' := by
  obtain ⟨ad, rfl, hblk, hc0⟩ := h 0 (.int .u8 (b.toNat : Int)) rfl
  have hc0 : w.cell? ad = some (.int .u8 (b.toNat : Int)) := by simpa [Addr.add] using hc0
  have hn := fl_bd b
  have hmk := fl_mk b
  have hmc := hm.2 (fl b) (by omega)
  have hbb := b.toNat_lt
  obtain ⟨n, hnn⟩ : ∃ n, n = fl b := ⟨_, rfl⟩
  rw [← hnn] at hn hmk hmc hl ⊢
  obtain ⟨mm, hmm⟩ : ∃ mm, mm = mk n := ⟨_, rfl⟩
  rw [← hmm] at hmk hmc
  have Hn := Lib.hid hnn; clear hnn
  have Hm := Lib.hid hmm; clear hmm
  have H := Lib.hid h; clear h
  have HM := Lib.hid hm; clear hm
  have a1 : (0 : Int) ≤ (n : Int) := by omega
  have a2 : (n : Int) < 5 := by omega
  have a3 : (0 : Int) < (r.length : Int) + 1 := by omega
  have a4 : (mm : Int) ≤ (b.toNat : Int) := by omega
  have a5 : (b.toNat : Int) < 256 := by omega
  have HT := Lib.hid ((H.out).tail (by simpa [cB] using hc))
  rcases (show ((c = 1) ∧ r.length = 0) ∨ (c ≠ 1) by omega) with ⟨hc1, hr⟩ | hc1
  · clear HT
    obtain rfl : r = [] := List.eq_nil_of_length_eq_zero hr
    subst hc1
    clear hr
    simp only [List.length_nil] at *
    obtain ⟨vv, hvv⟩ : ∃ vv, vv = b.toNat - mm := ⟨_, rfl⟩
    have e0 : (b.toNat : Int) - (mm : Int) = (vv : Int) := by omega
    have vlt : (vv : Int) < 100000000 := by omega
    have Hv := Lib.hid hvv; clear hvv
    go_enter Tryz.func142, Tryz.ntmps142
    go_wp2
    go_quiet (fail)
    go_wp2
    go_loop [4, 20] (fun lo i => i = .int .i64 0 ∧ lo = .int .i64 (vv : Int)) (fun _ _ => 0)
    case atStart => exact ⟨rfl, rfl⟩
    case round =>
      obtain ⟨rfl, rfl⟩ := hrel
      rcases (show ((n : Int) - 1 = 0) ∨ ((n : Int) - 1 = 1) ∨ ((n : Int) - 1 = 2) ∨ ((n : Int) - 1 = 3) by omega) with e3 | e3 | e3 | e3
      · have HL := Lib.hid (span_vals b [] mm n vv 0 0 Hn.out Hm.out (by rw [Hv.out]; rfl) (by simp) (by simp; omega) (by omega))
        go_wp2
        go_quiet (fail)
        go_wp2
        go_ret2
        exact ⟨ret2 (by rw [HL.out.1]; omega) (by rw [HL.out.2, ← or_d vv 0 (by omega) (by omega)]; simp), below_drewN' (below_drewN' (Below.refl _ _) _) _⟩
      · have HL := Lib.hid (span_vals b [] mm n vv 0 1 Hn.out Hm.out (by rw [Hv.out]; rfl) (by simp) (by simp; omega) (by omega))
        go_wp2
        go_quiet (fail)
        go_wp2
        go_ret2
        exact ⟨ret2 (by rw [HL.out.1]; omega) (by rw [HL.out.2, ← or_d vv 1 (by omega) (by omega)]; simp), below_drewN' (below_drewN' (Below.refl _ _) _) _⟩
      · have HL := Lib.hid (span_vals b [] mm n vv 0 2 Hn.out Hm.out (by rw [Hv.out]; rfl) (by simp) (by simp; omega) (by omega))
        go_wp2
        go_quiet (fail)
        go_wp2
        go_ret2
        exact ⟨ret2 (by rw [HL.out.1]; omega) (by rw [HL.out.2, ← or_d vv 2 (by omega) (by omega)]; simp), below_drewN' (below_drewN' (Below.refl _ _) _) _⟩
      · have HL := Lib.hid (span_vals b [] mm n vv 0 3 Hn.out Hm.out (by rw [Hv.out]; rfl) (by simp) (by simp; omega) (by omega))
        go_wp2
        go_quiet (fail)
        go_wp2
        go_ret2
        exact ⟨ret2 (by rw [HL.out.1]; omega) (by rw [HL.out.2, ← or_d vv 3 (by omega) (by omega)]; simp), below_drewN' (below_drewN' (Below.refl _ _) _) _⟩
  · have HT2 : Hid (Rd w (some (ad.add 1)) (cB r)) := by have := HT.out; rw [if_neg hc1] at this; exact this
    clear HT
    go_enter Tryz.func142, Tryz.ntmps142
    go_wp2
    go_quiet (fail)
    go_wp2
    go_loop [4, 20] (fun lo i => ∃ k : Nat, k ≤ r.length ∧ i = .int .i64 k ∧ lo = .int .i64 (val (b.toNat - mm) (r.take k) : Int)) (fun _ i => r.length - (intOf i).toNat)
    case atStart => exact ⟨0, Nat.zero_le _, rfl, by simp [val]; omega⟩
    case round =>
      obtain ⟨k, hk, rfl, rfl⟩ := hrel
      by_cases hlt : k < r.length
      · obtain ⟨b1, hb1⟩ : ∃ b1, r[k]? = some b1 := ⟨r[k], by simp [hlt]⟩
        obtain ⟨ad1, he, _, hc1⟩ := HT2.out k _ (cB_at r k b1 hb1)
        have HB := Lib.hid hb1; clear hb1
        obtain rfl : ad.add 1 = ad1 := by simpa using he
        clear he
        have hc2 : w.cell? ⟨ad.block, ad.off + 1 + k, none⟩ = some (.int .u8 (b1.toNat : Int)) := by
          rw [← hc1]; unfold Addr.add; by_cases h0 : k = 0
          · subst h0; simp
          · simp [h0]
        clear hc1
        obtain ⟨vv, hvv⟩ : ∃ vv, vv = val (b.toNat - mm) (r.take k) := ⟨_, rfl⟩
        rw [← hvv]
        have Hv := Lib.hid hvv; clear hvv
        have b1lt : (b1.toNat : Int) < 256 := by have := b1.toNat_lt; omega
        have vlt : (vv : Int) < 100000000 := by
          have h1 := val_lt (b.toNat - mm) (r.take k)
          rw [← Hv.out, List.length_take] at h1
          have h2 : 64 ^ (min k r.length) ≤ 64 ^ 3 := Nat.pow_le_pow_right (by omega) (by omega)
          have h3 := Nat.mul_le_mul (show b.toNat - mm + 1 ≤ 256 by omega) h2
          omega
        have e1 := and63 b1
        obtain ⟨q, hq⟩ : ∃ q, q = b1.toNat % 64 := ⟨_, rfl⟩
        rw [← hq] at e1
        have hq2 : q < 64 := by omega
        have Hq := Lib.hid hq; clear hq
        have e2 := or_i64_6 vv q (by omega) hq2
        go_wp2_with fail
        go_round
        case rel => exact ⟨k + 1, by omega, by go_num, by rw [val_take_succ _ r k b1 HB.out, ← Hv.out, ← Hq.out]; go_num⟩
        case measure => simp [intOf]; omega
      · obtain ⟨vv, hvv⟩ : ∃ vv, vv = val (b.toNat - mm) (r.take k) := ⟨_, rfl⟩
        rw [← hvv]
        have Hv := Lib.hid hvv; clear hvv
        have vlt : (vv : Int) < 100000000 := by
          have h1 := val_lt (b.toNat - mm) (r.take k)
          rw [← Hv.out, List.length_take] at h1
          have h2 : 64 ^ (min k r.length) ≤ 64 ^ 3 := Nat.pow_le_pow_right (by omega) (by omega)
          have h3 := Nat.mul_le_mul (show b.toNat - mm + 1 ≤ 256 by omega) h2
          omega
        rcases (show ((n : Int) - ((r.length : Int) + 1) = 0) ∨ ((n : Int) - ((r.length : Int) + 1) = 1) ∨ ((n : Int) - ((r.length : Int) + 1) = 2) ∨ ((n : Int) - ((r.length : Int) + 1) = 3) by omega) with e3 | e3 | e3 | e3
        · have HL := Lib.hid (span_vals b r mm n vv k 0 Hn.out Hm.out Hv.out (by omega) (by omega) (by omega))
          go_wp2
          go_quiet (fail)
          go_wp2
          go_ret2
          exact ⟨ret2 (by rw [HL.out.1]; omega) (by rw [HL.out.2, ← or_d vv 0 (by omega) (by omega)]; simp), below_drewN' (below_drewN' (Below.refl _ _) _) _⟩
        · have HL := Lib.hid (span_vals b r mm n vv k 1 Hn.out Hm.out Hv.out (by omega) (by omega) (by omega))
          go_wp2
          go_quiet (fail)
          go_wp2
          go_ret2
          exact ⟨ret2 (by rw [HL.out.1]; omega) (by rw [HL.out.2, ← or_d vv 1 (by omega) (by omega)]; simp), below_drewN' (below_drewN' (Below.refl _ _) _) _⟩
        · have HL := Lib.hid (span_vals b r mm n vv k 2 Hn.out Hm.out Hv.out (by omega) (by omega) (by omega))
          go_wp2
          go_quiet (fail)
          go_wp2
          go_ret2
          exact ⟨ret2 (by rw [HL.out.1]; omega) (by rw [HL.out.2, ← or_d vv 2 (by omega) (by omega)]; simp), below_drewN' (below_drewN' (Below.refl _ _) _) _⟩
        · have HL := Lib.hid (span_vals b r mm n vv k 3 Hn.out Hm.out Hv.out (by omega) (by omega) (by omega))
          go_wp2
          go_quiet (fail)
          go_wp2
          go_ret2
          exact ⟨ret2 (by rw [HL.out.1]; omega) (by rw [HL.out.2, ← or_d vv 3 (by omega) (by omega)]; simp), below_drewN' (below_drewN' (Below.refl _ _) _) _⟩
end Go.Proofs.YtoilcigmpeaedaaGreatDoor.Utf
