/-
  UtfB UtfC UtfD UtfE UtfF
-/
import Derived.Deep.QuietTactic
import Derived.BigQuiet
import Derived.Laws.BitsAllLaws
import Derived.Test.YtoilcigmpeaedaaGreatDoorF1
import Derived.Test.YtoilcigmpeaedaaGreatDoorF8
namespace Go.Proofs.YtoilcigmpeaedaaGreatDoor.Utf
open Go.RowKit

def IdxPost (bs : List UInt8) (w : World) (e : Ending) (w' : World) : Prop := ∃ r : Int, e = .returned (.int .i64 r) ∧ decide (0 ≤ r) = bs.any notc ∧ w = w'

theorem any_take_succ (bs : List UInt8) (k : Nat) (b : UInt8) (h : bs[k]? = some b) : (bs.take (k + 1)).any notc = ((bs.take k).any notc || notc b) := by
  rw [List.take_add_one, h]; simp
set_option maxHeartbeats 400000 in
theorem indexFunc_any (A : Option Addr) (c : Nat) (bs : List UInt8) (w : World) (h : Rd w A (cB bs)) (hl : bs.length ≤ 1000000) :
    Calls Tryz.prog 147 #[.slice A bs.length c, .func (.func 141) #[] #[]] w (IdxPost bs w) := by
  have H := Lib.hid h; clear h
  go_enter Tryz.func147, Tryz.ntmps147
  go_wp2
  go_loop [8] (fun i => ∃ k : Nat, k ≤ bs.length ∧ i = .int .i64 k ∧ Hid ((bs.take k).any notc = false)) (fun i => bs.length - (intOf i).toNat)
  case atStart => exact ⟨0, Nat.zero_le _, rfl, by simp [Hid]⟩
  case round =>
    obtain ⟨k, hk, rfl, ht⟩ := hrel
    by_cases hlt : k < bs.length
    · obtain ⟨b, hb⟩ : ∃ b, bs[k]? = some b := ⟨bs[k], by simp [hlt]⟩
      obtain ⟨ad, rfl, hblk, hc⟩ := H.out k _ (cB_at bs k b hb)
      have HB := Lib.hid hb; clear hb
      cases hn : notc b with
      | true =>
        go_wp2_with (go_at_call 141; refine (notContinuation_any _ _).mono ?_; rintro e w' ⟨rfl, rfl⟩)
        go_ret
        refine ⟨k, rfl, ?_, rfl⟩
        have := any_take_succ bs k b HB.out
        rw [hn, Bool.or_true] at this
        have h2 : bs.any notc = true := by
          rw [← List.take_append_drop (k + 1) bs, List.any_append, this, Bool.true_or]
        rw [h2]; simp
      | false =>
        go_wp2_with (go_at_call 141; refine (notContinuation_any _ _).mono ?_; rintro e w' ⟨rfl, rfl⟩)
        go_round
        case rel => exact ⟨k + 1, by omega, by go_num, by show _ = false; rw [any_take_succ bs k b HB.out, hn, ht.out]; rfl⟩
        case measure => simp [intOf]; omega
    · go_wp2
      go_ret
      refine ⟨-1, rfl, ?_, rfl⟩
      have := ht.out
      rw [List.take_of_length_le (by omega)] at this
      rw [this]; rfl

theorem containsFunc_any (A : Option Addr) (c : Nat) (bs : List UInt8) (w : World) (h : Rd w A (cB bs)) (hl : bs.length ≤ 1000000) :
    Calls Tryz.prog 140 #[.slice A bs.length c, .func (.func 141) #[] #[]] w fun e w' => e = .returned (.bool (bs.any notc)) ∧ w = w' := by
  have H := Lib.hid h; clear h
  go_enter Tryz.func140, Tryz.ntmps140
  go_wp2_with fail
  refine (indexFunc_any A c bs _ H.out hl).mono ?_
  rintro e w' ⟨r, rfl, hr, rfl⟩
  have HR := Lib.hid hr; clear hr
  go_wp2
  go_ret
  exact ⟨by rw [← HR.out]; rfl, rfl⟩
end Go.Proofs.YtoilcigmpeaedaaGreatDoor.Utf

namespace Go.Proofs.YtoilcigmpeaedaaGreatDoor.Utf
open Go.RowKit

theorem and63_bits : ∀ n : Fin 256, bits .and .u8 (n.val : Int) 63 = ((n.val % 64 : Nat) : Int) := by decide +kernel
theorem and63 (b : UInt8) : bits .and .u8 (b.toNat : Int) 63 = ((b.toNat % 64 : Nat) : Int) := and63_bits ⟨b.toNat, b.toNat_lt⟩
theorem ofInt64 (a : Nat) (ha : a < 9223372036854775808) : (BitVec.ofInt 64 (a : Int)).toNat = a := by
  rw [BitVec.ofInt_natCast, BitVec.toNat_ofNat]; exact Nat.mod_eq_of_lt (by omega)
theorem or_i64 (a b : Nat) (ha : a < 9223372036854775808) (hb : b < 9223372036854775808) : bits .or .i64 (a : Int) (b : Int) = ((a ||| b : Nat) : Int) := by
  have hx : a ||| b < 2 ^ 63 := Nat.or_lt_two_pow (by omega) (by omega)
  show IntKind.i64.wrap ((BitVec.ofInt 64 (a : Int) ||| BitVec.ofInt 64 (b : Int)).toNat : Int) = _
  rw [BitVec.toNat_or, ofInt64 a ha, ofInt64 b hb, IntKind.wrap_i64]
  omega
theorem or_add (v q k : Nat) (hq : q < 2 ^ k) : (v * 2 ^ k) ||| q = v * 2 ^ k + q := by
  rw [Nat.mul_comm, ← Nat.two_pow_add_eq_or_of_lt hq]
theorem or_i64_6 (v q : Nat) (hv : v < 1000000000) (hq : q < 64) : bits .or .i64 ((v : Int) * 64) (q : Int) = ((v * 64 + q : Nat) : Int) := by
  have h := or_i64 (v * 64) q (by omega) (by omega)
  rw [or_add v q 6 hq] at h
  have e : ((v * 64 : Nat) : Int) = (v : Int) * 64 := by omega
  rw [e] at h
  exact h

theorem val_lt (a : Nat) (l : List UInt8) : val a l < (a + 1) * 64 ^ l.length := by
  induction l generalizing a with
  | nil => simp [val]
  | cons x r ih =>
    have h := ih (a * 64 + x.toNat % 64)
    have h2 : (a * 64 + x.toNat % 64 + 1) * 64 ^ r.length ≤ ((a + 1) * 64) * 64 ^ r.length := Nat.mul_le_mul_right _ (by omega)
    simp only [val, List.length_cons, Nat.pow_succ]
    have h3 : (a + 1) * (64 ^ r.length * 64) = ((a + 1) * 64) * 64 ^ r.length := by rw [Nat.mul_comm (64 ^ r.length) 64, Nat.mul_assoc]
    omega
theorem val_take_succ (a : Nat) (l : List UInt8) (k : Nat) (b : UInt8) (h : l[k]? = some b) : val a (l.take (k + 1)) = val a (l.take k) * 64 + b.toNat % 64 := by
  rw [List.take_add_one, h]; exact val_snoc _ _ _

theorem or_d (v d : Nat) (hv : v < 1000000000) (hd : d ≤ 3) : bits .or .i64 ((v * 64 ^ d : Nat) : Int) ((64 ^ d - 1 : Nat) : Int) = ((v * 64 ^ d + (64 ^ d - 1) : Nat) : Int) := by
  have e : 64 ^ d = 2 ^ (6 * d) := by rw [Nat.pow_mul]
  have h64 : 64 ^ d ≤ 64 ^ 3 := Nat.pow_le_pow_right (by omega) hd
  have hpos : 0 < 64 ^ d := Nat.pow_pos (by omega)
  have h1 : v * 64 ^ d ≤ 1000000000 * 64 ^ 3 := Nat.mul_le_mul (by omega) h64
  rw [or_i64 _ _ (by omega) (by omega), e, or_add v _ (6 * d) (by rw [← e]; omega)]
theorem span_vals (b : UInt8) (r : List UInt8) (mm n vv k d : Nat) (hn : n = fl b) (hm : mm = mk n) (hv : vv = val (b.toNat - mm) (r.take k)) (hk : r.length ≤ k) (hd : (n : Int) - ((r.length : Int) + 1) = (d : Int)) (hd3 : d ≤ 3) :
    ((low (b :: r) : Nat) : Int) = ((vv * 64 ^ d : Nat) : Int) ∧ ((high (b :: r) : Nat) : Int) = ((vv * 64 ^ d + (64 ^ d - 1) : Nat) : Int) := by
  have e : fl b - (r.length + 1) = d := by omega
  rw [List.take_of_length_le hk] at hv
  subst hm; subst hn
  have hl : low (b :: r) = vv * 64 ^ d := by simp only [low, e, hv]
  refine ⟨by rw [hl], ?_⟩
  have hh : high (b :: r) = low (b :: r) + (64 ^ d - 1) := by simp only [high, e]
  rw [hh, hl]
theorem ret2 {a b c d : Int} (h1 : a = c) (h2 : b = d) : Ending.returned (.tuple #[.int .i64 a, .int .i64 b]) = .returned (.tuple #[.int .i64 c, .int .i64 d]) := by rw [h1, h2]

set_option maxRecDepth 100000 in
set_option maxHeartbeats 1000000 in
theorem span_any (A : Option Addr) (c : Nat) (b : UInt8) (r : List UInt8) (w : World) (h : Rd w A (cB (b :: r))) (hm : Mk w) (hl : r.length + 1 ≤ fl b) (hc : r.length + 1 ≤ c) :
    Calls Tryz.prog 142 #[.slice A (r.length + 1) c, .int .i64 (fl b : Int)] w fun e w' => e = .returned (.tuple #[.int .i64 (low (b :: r) : Int), .int .i64 (high (b :: r) : Int)]) ∧ Below w.heap.size w w' := by
  obtain ⟨ad, rfl, hblk, hc0⟩ := h 0 (.int .u8 (b.toNat : Int)) rfl
  have hc0 : w.cell? ad = some (.int .u8 (b.toNat : Int)) := by simpa [Addr.add] using hc0
  have hn := fl_bd b
  have hmk := fl_mk b
  have hmc := hm.2 (fl b) (by omega)
  have hbb := b.toNat_lt
  obtain ⟨n, hnn⟩ : ∃ n, n = fl b := ⟨_, rfl⟩
  rw [← hnn] at hn hmk hmc hl ⊢
  obtain ⟨mm, hmm⟩ : ∃ mm, mm = mk n := ⟨_, rfl⟩
  rw [← hmm] at hmk hmc
  have Hn := Lib.hid hnn; clear hnn
  have Hm := Lib.hid hmm; clear hmm
  have H := Lib.hid h; clear h
  have HM := Lib.hid hm; clear hm
  have a1 : (0 : Int) ≤ (n : Int) := by omega
  have a2 : (n : Int) < 5 := by omega
  have a3 : (0 : Int) < (r.length : Int) + 1 := by omega
  have a4 : (mm : Int) ≤ (b.toNat : Int) := by omega
  have a5 : (b.toNat : Int) < 256 := by omega
  have HT := Lib.hid ((H.out).tail (by simpa [cB] using hc))
  rcases (show ((c = 1) ∧ r.length = 0) ∨ (c ≠ 1) by omega) with ⟨hc1, hr⟩ | hc1
  · clear HT
    obtain rfl : r = [] := List.eq_nil_of_length_eq_zero hr
    subst hc1
    clear hr
    simp only [List.length_nil] at *
    obtain ⟨vv, hvv⟩ : ∃ vv, vv = b.toNat - mm := ⟨_, rfl⟩
    have e0 : (b.toNat : Int) - (mm : Int) = (vv : Int) := by omega
    have vlt : (vv : Int) < 100000000 := by omega
    have Hv := Lib.hid hvv; clear hvv
    go_enter Tryz.func142, Tryz.ntmps142
    go_wp2
    go_quiet (fail)
    go_wp2
    go_loop [4, 20] (fun lo i => i = .int .i64 0 ∧ lo = .int .i64 (vv : Int)) (fun _ _ => 0)
    case atStart => exact ⟨rfl, rfl⟩
    case round =>
      obtain ⟨rfl, rfl⟩ := hrel
      rcases (show ((n : Int) - 1 = 0) ∨ ((n : Int) - 1 = 1) ∨ ((n : Int) - 1 = 2) ∨ ((n : Int) - 1 = 3) by omega) with e3 | e3 | e3 | e3
      · have HL := Lib.hid (span_vals b [] mm n vv 0 0 Hn.out Hm.out (by rw [Hv.out]; rfl) (by simp) (by simp; omega) (by omega))
        go_wp2
        go_quiet (fail)
        go_wp2
        go_ret2
        exact ⟨ret2 (by rw [HL.out.1]; omega) (by rw [HL.out.2, ← or_d vv 0 (by omega) (by omega)]; simp), below_drewN' (below_drewN' (Below.refl _ _) _) _⟩
      · have HL := Lib.hid (span_vals b [] mm n vv 0 1 Hn.out Hm.out (by rw [Hv.out]; rfl) (by simp) (by simp; omega) (by omega))
        go_wp2
        go_quiet (fail)
        go_wp2
        go_ret2
        exact ⟨ret2 (by rw [HL.out.1]; omega) (by rw [HL.out.2, ← or_d vv 1 (by omega) (by omega)]; simp), below_drewN' (below_drewN' (Below.refl _ _) _) _⟩
      · have HL := Lib.hid (span_vals b [] mm n vv 0 2 Hn.out Hm.out (by rw [Hv.out]; rfl) (by simp) (by simp; omega) (by omega))
        go_wp2
        go_quiet (fail)
        go_wp2
        go_ret2
        exact ⟨ret2 (by rw [HL.out.1]; omega) (by rw [HL.out.2, ← or_d vv 2 (by omega) (by omega)]; simp), below_drewN' (below_drewN' (Below.refl _ _) _) _⟩
      · have HL := Lib.hid (span_vals b [] mm n vv 0 3 Hn.out Hm.out (by rw [Hv.out]; rfl) (by simp) (by simp; omega) (by omega))
        go_wp2
        go_quiet (fail)
        go_wp2
        go_ret2
        exact ⟨ret2 (by rw [HL.out.1]; omega) (by rw [HL.out.2, ← or_d vv 3 (by omega) (by omega)]; simp), below_drewN' (below_drewN' (Below.refl _ _) _) _⟩
  · have HT2 : Hid (Rd w (some (ad.add 1)) (cB r)) := by have := HT.out; rw [if_neg hc1] at this; exact this
    clear HT
    go_enter Tryz.func142, Tryz.ntmps142
    go_wp2
    go_quiet (fail)
    go_wp2
    go_loop [4, 20] (fun lo i => ∃ k : Nat, k ≤ r.length ∧ i = .int .i64 k ∧ lo = .int .i64 (val (b.toNat - mm) (r.take k) : Int)) (fun _ i => r.length - (intOf i).toNat)
    case atStart => exact ⟨0, Nat.zero_le _, rfl, by simp [val]; omega⟩
    case round =>
      obtain ⟨k, hk, rfl, rfl⟩ := hrel
      by_cases hlt : k < r.length
      · obtain ⟨b1, hb1⟩ : ∃ b1, r[k]? = some b1 := ⟨r[k], by simp [hlt]⟩
        obtain ⟨ad1, he, _, hc1⟩ := HT2.out k _ (cB_at r k b1 hb1)
        have HB := Lib.hid hb1; clear hb1
        obtain rfl : ad.add 1 = ad1 := by simpa using he
        clear he
        have hc2 : w.cell? ⟨ad.block, ad.off + 1 + k, none⟩ = some (.int .u8 (b1.toNat : Int)) := by
          rw [← hc1]; unfold Addr.add; by_cases h0 : k = 0
          · subst h0; simp
          · simp [h0]
        clear hc1
        obtain ⟨vv, hvv⟩ : ∃ vv, vv = val (b.toNat - mm) (r.take k) := ⟨_, rfl⟩
        rw [← hvv]
        have Hv := Lib.hid hvv; clear hvv
        have b1lt : (b1.toNat : Int) < 256 := by have := b1.toNat_lt; omega
        have vlt : (vv : Int) < 100000000 := by
          have h1 := val_lt (b.toNat - mm) (r.take k)
          rw [← Hv.out, List.length_take] at h1
          have h2 : 64 ^ (min k r.length) ≤ 64 ^ 3 := Nat.pow_le_pow_right (by omega) (by omega)
          have h3 := Nat.mul_le_mul (show b.toNat - mm + 1 ≤ 256 by omega) h2
          omega
        have e1 := and63 b1
        obtain ⟨q, hq⟩ : ∃ q, q = b1.toNat % 64 := ⟨_, rfl⟩
        rw [← hq] at e1
        have hq2 : q < 64 := by omega
        have Hq := Lib.hid hq; clear hq
        have e2 := or_i64_6 vv q (by omega) hq2
        go_wp2_with fail
        go_round
        case rel => exact ⟨k + 1, by omega, by go_num, by rw [val_take_succ _ r k b1 HB.out, ← Hv.out, ← Hq.out]; go_num⟩
        case measure => simp [intOf]; omega
      · obtain ⟨vv, hvv⟩ : ∃ vv, vv = val (b.toNat - mm) (r.take k) := ⟨_, rfl⟩
        rw [← hvv]
        have Hv := Lib.hid hvv; clear hvv
        have vlt : (vv : Int) < 100000000 := by
          have h1 := val_lt (b.toNat - mm) (r.take k)
          rw [← Hv.out, List.length_take] at h1
          have h2 : 64 ^ (min k r.length) ≤ 64 ^ 3 := Nat.pow_le_pow_right (by omega) (by omega)
          have h3 := Nat.mul_le_mul (show b.toNat - mm + 1 ≤ 256 by omega) h2
          omega
        rcases (show ((n : Int) - ((r.length : Int) + 1) = 0) ∨ ((n : Int) - ((r.length : Int) + 1) = 1) ∨ ((n : Int) - ((r.length : Int) + 1) = 2) ∨ ((n : Int) - ((r.length : Int) + 1) = 3) by omega) with e3 | e3 | e3 | e3
        · have HL := Lib.hid (span_vals b r mm n vv k 0 Hn.out Hm.out Hv.out (by omega) (by omega) (by omega))
          go_wp2
          go_quiet (fail)
          go_wp2
          go_ret2
          exact ⟨ret2 (by rw [HL.out.1]; omega) (by rw [HL.out.2, ← or_d vv 0 (by omega) (by omega)]; simp), below_drewN' (below_drewN' (Below.refl _ _) _) _⟩
        · have HL := Lib.hid (span_vals b r mm n vv k 1 Hn.out Hm.out Hv.out (by omega) (by omega) (by omega))
          go_wp2
          go_quiet (fail)
          go_wp2
          go_ret2
          exact ⟨ret2 (by rw [HL.out.1]; omega) (by rw [HL.out.2, ← or_d vv 1 (by omega) (by omega)]; simp), below_drewN' (below_drewN' (Below.refl _ _) _) _⟩
        · have HL := Lib.hid (span_vals b r mm n vv k 2 Hn.out Hm.out Hv.out (by omega) (by omega) (by omega))
          go_wp2
          go_quiet (fail)
          go_wp2
          go_ret2
          exact ⟨ret2 (by rw [HL.out.1]; omega) (by rw [HL.out.2, ← or_d vv 2 (by omega) (by omega)]; simp), below_drewN' (below_drewN' (Below.refl _ _) _) _⟩
        · have HL := Lib.hid (span_vals b r mm n vv k 3 Hn.out Hm.out Hv.out (by omega) (by omega) (by omega))
          go_wp2
          go_quiet (fail)
          go_wp2
          go_ret2
          exact ⟨ret2 (by rw [HL.out.1]; omega) (by rw [HL.out.2, ← or_d vv 3 (by omega) (by omega)]; simp), below_drewN' (below_drewN' (Below.refl _ _) _) _⟩
end Go.Proofs.YtoilcigmpeaedaaGreatDoor.Utf

namespace Go.Proofs.YtoilcigmpeaedaaGreatDoor.Utf
open Go.RowKit

set_option maxRecDepth 100000 in
set_option maxHeartbeats 1000000 in
theorem begins_any (A : Option Addr) (c : Nat) (b : UInt8) (r : List UInt8) (w : World) (h : Rd w A (cB (b :: r))) (hm : Mk w) (hl : r.length + 1 ≤ fl b) (hc : r.length + 1 ≤ c) :
    Calls Tryz.prog 129 #[.slice A (r.length + 1) c] w fun e w' => e = .returned (.bool (begB (b :: r))) ∧ Below w.heap.size w w' := by
  obtain ⟨ad, rfl, hblk, hc0⟩ := h 0 (.int .u8 (b.toNat : Int)) rfl
  have hc0 : w.cell? ad = some (.int .u8 (b.toNat : Int)) := by simpa [Addr.add] using hc0
  have hn := fl_bd b
  have H := Lib.hid h; clear h
  have HM := Lib.hid hm; clear hm
  have Hl := Lib.hid hl
  have HT : ∃ A1 c1, Hid (Rd w A1 (cB r)) ∧ Hid ((c = 1 ∧ r.length = 0 ∧ A1 = some ad ∧ c1 = 0) ∨ (c ≠ 1 ∧ A1 = some ⟨ad.block, ad.off + 1, none⟩ ∧ c1 = c - 1)) := by
    have ht := (H.out).tail (by simpa [cB] using hc)
    by_cases h1 : c = 1
    · exact ⟨some ad, 0, by rw [if_pos h1] at ht; exact ht, .inl ⟨h1, by omega, rfl, rfl⟩⟩
    · exact ⟨_, _, by rw [if_neg h1] at ht; exact ht, .inr ⟨h1, rfl, rfl⟩⟩
  obtain ⟨A1, c1, HT1, HT2⟩ := HT
  obtain ⟨an, han⟩ : ∃ an, an = r.any notc := ⟨_, rfl⟩
  obtain ⟨f1, hf1⟩ : ∃ f1, f1 = fitsB (low (b :: r)) (fl b) := ⟨_, rfl⟩
  obtain ⟨f2, hf2⟩ : ∃ f2, f2 = fitsB (high (b :: r)) (fl b) := ⟨_, rfl⟩
  have hfin : begB (b :: r) = (!an && (f1 || f2)) := by rw [han, hf1, hf2]; rfl
  have Han := Lib.hid han; clear han
  have Hf1 := Lib.hid hf1; clear hf1
  have Hf2 := Lib.hid hf2; clear hf2
  have Hfin := Lib.hid hfin; clear hfin
  have rest : Calls Tryz.prog 129 #[.slice (some ad) (r.length + 1) c] w fun e w' => e = .returned (.bool (!an && (f1 || f2))) ∧ Below w.heap.size w w' := by
    rcases HT2.out with ⟨hc1, hr, rfl, rfl⟩ | ⟨hc1, rfl, rfl⟩
    · subst hc1
      obtain rfl : r = [] := List.eq_nil_of_length_eq_zero hr
      clear hr HT2
      simp only [List.length_nil] at *
      cases an
      · go_enter Tryz.func129, Tryz.ntmps129
        go_wp2_with fail
        refine (containsFunc_any _ _ [] _ HT1.out (by simp)).mono ?_
        rintro e w' ⟨rfl, rfl⟩
        go_wp2_with fail
        refine (firstLength_any _ _).mono ?_
        rintro e w' ⟨rfl, rfl⟩
        go_wp2_with fail
        refine (span_any _ _ b [] _ H.out HM.out Hl.out (Nat.le_refl _)).mono ?_
        rintro e w1 ⟨rfl, hb1⟩
        go_wp2_with fail
        refine (fits_any _ _ _).mono ?_
        rintro e w' ⟨rfl, rfl⟩
        rw [← Hf1.out]
        cases f1
        · go_wp2_with fail
          refine (fits_any _ _ _).mono ?_
          rintro e w' ⟨rfl, rfl⟩
          rw [← Hf2.out]
          go_wp2
          go_ret
          exact ⟨by cases f2 <;> rfl, hb1⟩
        · go_wp2
          go_ret
          exact ⟨by cases f2 <;> rfl, hb1⟩
      · exact absurd Han.out (by simp)
    · cases an
      · go_enter Tryz.func129, Tryz.ntmps129
        go_wp2_with fail
        refine (containsFunc_any _ _ r _ HT1.out (by omega)).mono ?_
        rintro e w' ⟨rfl, rfl⟩
        rw [← Han.out]
        go_wp2_with fail
        refine (firstLength_any _ _).mono ?_
        rintro e w' ⟨rfl, rfl⟩
        go_wp2_with fail
        refine (span_any _ _ b r _ H.out HM.out Hl.out hc).mono ?_
        rintro e w1 ⟨rfl, hb1⟩
        go_wp2_with fail
        refine (fits_any _ _ _).mono ?_
        rintro e w' ⟨rfl, rfl⟩
        rw [← Hf1.out]
        cases f1
        · go_wp2_with fail
          refine (fits_any _ _ _).mono ?_
          rintro e w' ⟨rfl, rfl⟩
          rw [← Hf2.out]
          go_wp2
          go_ret
          exact ⟨by cases f2 <;> rfl, hb1⟩
        · go_wp2
          go_ret
          exact ⟨by cases f2 <;> rfl, hb1⟩
      · go_enter Tryz.func129, Tryz.ntmps129
        go_wp2_with fail
        refine (containsFunc_any _ _ r _ HT1.out (by omega)).mono ?_
        rintro e w' ⟨rfl, rfl⟩
        rw [← Han.out]
        go_wp2
        go_ret
        exact ⟨rfl, Below.refl _ _⟩
  rw [Hfin.out]
  exact rest

set_option maxRecDepth 100000 in
set_option maxHeartbeats 1000000 in
theorem prefix_any (A : Option Addr) (c : Nat) (bs : List UInt8) (w : World) (h : Rd w A (cB bs)) (hm : Mk w) (hc : bs.length ≤ c) (hs : bs.length ≤ 1000000) :
    Calls Tryz.prog 127 #[.slice A bs.length c] w fun e w' => e = .returned (.bool (preB bs)) ∧ Below w.heap.size w w' := by
  cases bs with
  | nil =>
    clear h hm
    go_enter Tryz.func127, Tryz.ntmps127
    go_wp2
    go_ret
    exact ⟨rfl, Below.refl _ _⟩
  | cons b r =>
    obtain ⟨ad, rfl, hblk, hc0⟩ := h 0 (.int .u8 (b.toNat : Int)) rfl
    have hc0 : w.cell? ad = some (.int .u8 (b.toNat : Int)) := by simpa [Addr.add] using hc0
    have hn := fl_bd b
    have H := Lib.hid h; clear h
    have HM := Lib.hid hm; clear hm
    simp only [List.length_cons] at *
    obtain ⟨g, hg⟩ : ∃ g, g = begB (b :: r) := ⟨_, rfl⟩
    have Hg := Lib.hid hg; clear hg
    by_cases hlt : r.length + 1 < fl b
    · have hfin : preB (b :: r) = g := by rw [Hg.out]; simp [preB, hlt]
      rw [hfin]; clear hfin
      go_enter Tryz.func127, Tryz.ntmps127
      go_wp2_with fail
      refine (firstLength_any _ _).mono ?_
      rintro e w' ⟨rfl, rfl⟩
      go_wp2_with fail
      refine (begins_any _ _ b r _ H.out HM.out (by omega) hc).mono ?_
      rintro e w1 ⟨rfl, hb1⟩
      rw [← Hg.out]
      go_wp2
      go_ret
      exact ⟨rfl, hb1⟩
    · have hfin : preB (b :: r) = false := by simp [preB, hlt]
      rw [hfin]; clear hfin
      go_enter Tryz.func127, Tryz.ntmps127
      go_wp2_with fail
      refine (firstLength_any _ _).mono ?_
      rintro e w' ⟨rfl, rfl⟩
      go_wp2
      go_ret
      exact ⟨rfl, Below.refl _ _⟩

end Go.Proofs.YtoilcigmpeaedaaGreatDoor.Utf

namespace Go.Proofs.YtoilcigmpeaedaaGreatDoor.Utf
open Go.RowKit

theorem infoB : (Tryz.prog.info? 5).map (fun i => (i.zero, i.size, i.bytes)) = some (some (.int .u8 0), 1, 1) := by kernel_rfl
theorem infoI : (Tryz.prog.info? 3).map (fun i => (i.zero, i.size, i.bytes)) = some (some (.int .i64 0), 1, 8) := by kernel_rfl

set_option maxRecDepth 100000 in
set_option maxHeartbeats 1000000 in
theorem clone_any (ad : Addr) (c : Nat) (bs : List UInt8) (w : World) (h : Rd w (some ad) (cB bs)) (hs : bs.length ≤ 100000) :
    Calls Tryz.prog 128 #[.slice (some ad) bs.length c] w fun e w' => ∃ v, e = .returned v ∧ w'.ownsRow w.heap.size 5 1 v bs.length (cB bs) ∧ Below w.heap.size w w' := by
  obtain ⟨i0, hi0, hz0, hz1, hz2⟩ := info_parts infoB
  have H := Lib.hid h; clear h
  have hq := fun wx => Lib.run_eql_slice_nil (P := Tryz.prog) wx 38 5 (some ad) bs.length c 0 0 Tryz.underlying38
  go_enter Tryz.func128, Tryz.ntmps128
  have hR : Rd (w.alloc (.cells #[] 5)) (some ad) (cB bs) := (H.out).below ((Below.refl _ _).alloc (Nat.le_refl _) _)
  have HR := Lib.hid hR; clear hR
  have HO := Lib.hid (World.ownsRow_made (base := w.heap.size) (e := 5) (size := 1) w #[] 0 (Nat.le_refl _) (by unfold maxLen; omega) rfl)
  go_wp2_with (at_builtin; refine wpList_appB _ rfl _ _ 38 rfl w.heap.size 5 i0 _ 1 Tryz.underlying38 hi0 hz0 hz1 hz2 rfl _ 0 [] rfl HO.out (some ad) bs.length c (cB bs) rfl (cB_len _) HR.out (cB_one _) (by omega) (by omega) (by simp) ?_; intro v1 w1 hown1 hb1)
  go_ret
  exact ⟨v1, rfl, by simpa using hown1, ((Below.refl _ _).alloc (Nat.le_refl _) _).trans hb1⟩

/-- it lies, where it lies anywhere, in block B or a later one -/
def HiA (B : Nat) (A : Option Addr) : Prop := ∀ ad, A = some ad → B ≤ ad.block
theorem HiA.none (B : Nat) : HiA B none := fun _ h => by cases h
theorem HiA.mono {B B' : Nat} {A : Option Addr} (h : HiA B A) (hB : B' ≤ B) : HiA B' A := fun ad e => Nat.le_trans hB (h ad e)
theorem HiA.at {B b o : Nat} (h : B ≤ b) : HiA B (some ⟨b, o, .none⟩) := fun _ e => by cases e; exact h
theorem HiA.own {w : World} {B n size m c : Nat} {e : TypeId} {A : Option Addr} {xs : List Value} (h : w.ownsRow B e size (.slice A m c) n xs) : HiA B A := fun ad he => by
  rcases h.2 with ⟨h0, _⟩ | ⟨g, cap, cur, hv, hg, _⟩
  · cases h0; cases he
  · cases hv; cases he; exact hg
def TakePost (A0 : Option Addr) (bs : List UInt8) (w : World) (e : Ending) (w' : World) : Prop :=
  ∃ A1 c1 A2 c2, (A1 = A0 ∨ A1 = none) ∧ e = .returned (.tuple #[.slice A1 (takeL bs).1.length c1, .slice A2 (takeL bs).2.length c2]) ∧ (takeL bs).1.length ≤ c1 ∧ Rd w' A1 (cB (takeL bs).1) ∧ Rd w' A2 (cI (takeL bs).2) ∧ Below w.heap.size w w' ∧ HiA w.heap.size A2

set_option maxRecDepth 100000 in
set_option maxHeartbeats 1000000 in
theorem take_any (A : Option Addr) (c : Nat) (b : UInt8) (r : List UInt8) (w : World) (h : Rd w A (cB (b :: r))) (hm : Mk w) (hl : r.length + 1 ≤ fl b) (hc : r.length + 1 ≤ c) :
    Calls Tryz.prog 130 #[.slice A (r.length + 1) c] w (TakePost A (b :: r) w) := by
  obtain ⟨ad, rfl, hblk, hc0⟩ := h 0 (.int .u8 (b.toNat : Int)) rfl
  have hc0 : w.cell? ad = some (.int .u8 (b.toNat : Int)) := by simpa [Addr.add] using hc0
  have hn := fl_bd b
  have H := Lib.hid h; clear h
  have HM := Lib.hid hm; clear hm
  by_cases hlt : r.length + 1 < fl b
  · have HF := Lib.hid (show takeL (b :: r) = (b :: r, []) by simp [takeL, hlt])
    go_enter Tryz.func130, Tryz.ntmps130
    go_wp2_with fail
    refine (firstLength_any _ _).mono ?_
    rintro e w' ⟨rfl, rfl⟩
    go_wp2
    go_ret2
    refine ⟨some ad, c, none, 0, .inl rfl, ?_, ?_, ?_, ?_, Below.refl _ _, HiA.none _⟩
    · rw [HF.out]; rfl
    · rw [HF.out]; exact hc
    · rw [HF.out]; exact H.out
    · rw [HF.out]; exact Rd.nil _ _
  · have HF := Lib.hid (show takeL (b :: r) = ([], [(low (b :: r) : Int)]) by simp [takeL, hlt])
    go_enter Tryz.func130, Tryz.ntmps130
    go_wp2_with fail
    refine (firstLength_any _ _).mono ?_
    rintro e w' ⟨rfl, rfl⟩
    go_wp2_with fail
    refine (span_any _ _ b r _ H.out HM.out hl hc).mono ?_
    rintro e w1 ⟨rfl, hb1⟩
    go_wp2
    go_ret2
    refine ⟨none, 0, some ⟨w1.heap.size, 0, none⟩, 1, .inr rfl, ?_, ?_, ?_, ?_, hb1.alloc hb1.size _, HiA.at hb1.size⟩
    · rw [HF.out]; rfl
    · rw [HF.out]; exact Nat.le_refl _
    · rw [HF.out]; exact Rd.nil _ _
    · rw [HF.out]; exact Rd.one _ _ _

def IntsPost (zs : List Int) (w : World) (e : Ending) (w' : World) : Prop :=
  ∃ A c, e = .returned (.slice A zs.length c) ∧ Rd w' A (cI zs) ∧ Below w.heap.size w w' ∧ ∀ ad, A = some ad → w.heap.size ≤ ad.block
set_option maxRecDepth 100000 in
theorem flush_any (A : Option Addr) (c : Nat) (bs : List UInt8) (w : World) (h : Rd w A (cB bs)) (hm : Mk w) (hc : bs.length ≤ c) (hs : bs.length ≤ 1000000) :
    Calls Tryz.prog 111 #[.slice A bs.length c] w (IntsPost (flushL bs) w) := by
  have H := Lib.hid h; clear h
  have HM := Lib.hid hm; clear hm
  obtain ⟨g, hg⟩ : ∃ g, g = preB bs := ⟨_, rfl⟩
  have Hg := Lib.hid hg; clear hg
  go_enter Tryz.func111, Tryz.ntmps111
  go_wp2_with fail
  refine (prefix_any _ _ _ _ H.out HM.out hc hs).mono ?_
  rintro e w1 ⟨rfl, hb1⟩
  rw [← Hg.out]
  cases g
  · have HF := Lib.hid (show flushL bs = [] by simp [flushL, ← Hg.out])
    go_wp2
    go_ret
    refine ⟨none, 0, ?_, ?_, hb1, fun _ h => by cases h⟩
    · rw [HF.out]; rfl
    · rw [HF.out]; exact Rd.nil _ _
  · have HF := Lib.hid (show flushL bs = [65533] by simp [flushL, ← Hg.out])
    go_wp2
    go_ret
    refine ⟨some ⟨w1.heap.size, 0, none⟩, 1, ?_, ?_, hb1.alloc hb1.size _, fun _ h => by cases h; exact hb1.size⟩
    · rw [HF.out]; rfl
    · rw [HF.out]; exact Rd.one _ _ _
end Go.Proofs.YtoilcigmpeaedaaGreatDoor.Utf

namespace Go.Proofs.YtoilcigmpeaedaaGreatDoor.Utf
open Go.RowKit

def StepPost (p : List UInt8) (b : UInt8) (w : World) (e : Ending) (w' : World) : Prop :=
  ∃ A1 c1 A2 c2, e = .returned (.tuple #[.slice A1 (stepL p b).1.length c1, .slice A2 (stepL p b).2.length c2]) ∧ (stepL p b).1.length ≤ c1 ∧ TyB w' A1 ∧ Rd w' A1 (cB (stepL p b).1) ∧ Rd w' A2 (cI (stepL p b).2) ∧ Below w.heap.size w w'

/-- and both lie in memory of the call's own -/
def StepPostH (p : List UInt8) (b : UInt8) (w : World) (e : Ending) (w' : World) : Prop :=
  ∃ A1 c1 A2 c2, e = .returned (.tuple #[.slice A1 (stepL p b).1.length c1, .slice A2 (stepL p b).2.length c2]) ∧ (stepL p b).1.length ≤ c1 ∧ TyB w' A1 ∧ Rd w' A1 (cB (stepL p b).1) ∧ Rd w' A2 (cI (stepL p b).2) ∧ Below w.heap.size w w' ∧ HiA w.heap.size A1 ∧ HiA w.heap.size A2
theorem StepPostH.lo {p : List UInt8} {b : UInt8} {w : World} {e : Ending} {w' : World} (h : StepPostH p b w e w') : StepPost p b w e w' := by
  obtain ⟨A1, c1, A2, c2, h1, h2, h3, h4, h5, h6, _⟩ := h
  exact ⟨A1, c1, A2, c2, h1, h2, h3, h4, h5, h6⟩
theorem step_of {p : List UInt8} {b : UInt8} {w w' : World} {e : Ending} (l1 : List UInt8) (l2 : List Int) (h : stepL p b = (l1, l2)) (A1 A2 : Option Addr) (c1 c2 n1 n2 : Nat) (h1 : n1 = l1.length) (h2 : n2 = l2.length)
    (he : e = .returned (.tuple #[.slice A1 n1 c1, .slice A2 n2 c2])) (hc : l1.length ≤ c1) (t1 : TyB w' A1) (r1 : Rd w' A1 (cB l1)) (r2 : Rd w' A2 (cI l2)) (hb : Below w.heap.size w w') (g1 : HiA w.heap.size A1) (g2 : HiA w.heap.size A2) : StepPostH p b w e w' := by
  subst h1; subst h2
  exact ⟨A1, c1, A2, c2, by rw [h]; exact he, by rw [h]; exact hc, t1, by rw [h]; exact r1, by rw [h]; exact r2, hb, g1, g2⟩

set_option maxRecDepth 100000 in
set_option maxHeartbeats 2000000 in
theorem step_no (A : Option Addr) (c : Nat) (p : List UInt8) (b : UInt8) (w : World) (h : Rd w A (cB p)) (hm : Mk w) (hc : p.length ≤ c) (hs : p.length ≤ 100000) (hp : preB p = false) :
    Calls Tryz.prog 110 #[.slice A p.length c, .int .u8 (b.toNat : Int)] w (StepPostH p b w) := by
  obtain ⟨i0, hi0, hz0, hz1, hz2⟩ := info_parts infoI
  have H := Lib.hid h; clear h
  have HM := Lib.hid hm; clear hm
  have Hst := Lib.hid (show stepL p b = aloneL b by simp [stepL, hp])
  have Hp := Lib.hid hp; clear hp
  have hfl := fl_bd b
  obtain ⟨g, hg⟩ : ∃ g, g = begB [b] := ⟨_, rfl⟩
  have Hg := Lib.hid hg; clear hg
  go_enter Tryz.func110, Tryz.ntmps110
  go_wp2_with fail
  refine (prefix_any _ _ _ _ H.out HM.out hc (by omega)).mono ?_
  rintro e w1 ⟨rfl, hb1⟩
  rw [Hp.out]
  go_wp2_with fail
  have hb2 := hb1.alloc hb1.size (.cells #[.int .u8 (b.toNat : Int)] 5)
  refine (begins_any _ 1 b [] _ (Rd.one _ _ _) ((HM.out).keep hb2) (by simp; omega) (by simp)).mono ?_
  rintro e w2 ⟨rfl, hb3⟩
  have hb4 := hb2.trans (hb3.mono hb2.size)
  rw [← Hg.out]
  cases g
  · have HF := Lib.hid (show aloneL b = ([], [65533]) by simp [aloneL, ← Hg.out])
    have HO := Lib.hid (World.ownsRow_nil (w2.alloc (.cells #[.int .i64 65533] 3)) w.heap.size 3 1)
    have HS := Lib.hid hb4.size
    go_wp2_with (at_builtin; refine wpList_appB _ rfl _ _ 27 rfl w.heap.size 3 i0 _ 8 Tryz.underlying27 hi0 hz0 hz1 hz2 rfl _ 0 [] rfl HO.out (some ⟨w2.heap.size, 0, none⟩) 1 1 (cI [65533]) rfl (cI_len _) (Rd.one _ _ _) (cI_one _) (by omega) (by omega) (by have := HS.out; simp; omega) ?_; intro v3 w3 hown3 hb5)
    obtain ⟨A2, c2, hv3, _, hr3⟩ := own_slice hown3
    rw [hv3]
    go_wp2
    go_ret2
    refine step_of [] [65533] (by rw [Hst.out, HF.out]) none A2 0 c2 0 (0 + 1) rfl rfl rfl (Nat.le_refl _) (TyB.none _) (Rd.nil _ _) hr3 ((hb4.alloc hb4.size _).trans hb5) (HiA.none _) (HiA.own (hv3 ▸ hown3))
  · have HF := Lib.hid (show aloneL b = takeL [b] by simp [aloneL, ← Hg.out])
    go_wp2_with fail
    refine (take_any _ 1 b [] _ ((Rd.one _ _ _).below hb3) ((HM.out).keep hb4) (by simp; omega) (by simp)).mono ?_
    rintro e w3 ⟨A1, c1, A2, c2, hA1, rfl, hcc, hr1, hr2, hb5, _⟩
    have G1 := Lib.hid (show HiA w.heap.size A1 by rcases hA1 with rfl | rfl; exact HiA.at hb1.size; exact HiA.none _)
    have HY := Lib.hid ((((TyB.new w1 #[.int .u8 (b.toNat : Int)]).below hb3).below hb5).or hA1); clear hA1
    have hb6 := hb4.trans (hb5.mono hb4.size)
    have hl := takeL_len [b] (by simp)
    obtain ⟨l1, hl1⟩ : ∃ l, (takeL [b]).1 = l := ⟨_, rfl⟩
    obtain ⟨l2, hl2⟩ : ∃ l, (takeL [b]).2 = l := ⟨_, rfl⟩
    rw [hl1] at hcc hr1 hl ⊢
    rw [hl2] at hr2 hl ⊢
    have HT := Lib.hid (show takeL [b] = (l1, l2) by rw [← hl1, ← hl2])
    clear hl1 hl2
    have HR2 := Lib.hid hr2; clear hr2
    have HR1 := Lib.hid hr1; clear hr1
    have HO := Lib.hid (World.ownsRow_nil w3 w3.heap.size 3 1)
    go_wp2_with (at_builtin; refine wpList_appB _ rfl _ _ 27 rfl w3.heap.size 3 i0 _ 8 Tryz.underlying27 hi0 hz0 hz1 hz2 rfl _ 0 [] rfl HO.out A2 l2.length c2 (cI l2) rfl (cI_len _) HR2.out (cI_one _) (by omega) (by omega) (Nat.le_refl _) ?_; intro v4 w4 hown4 hb7)
    obtain ⟨A3, c3, hv4, _, hr4⟩ := own_slice hown4
    rw [hv4]
    go_wp2
    go_ret2
    exact step_of l1 l2 (by rw [Hst.out, HF.out, HT.out]) A1 A3 c1 c3 _ (0 + l2.length) rfl (by omega) rfl hcc ((HY.out).below hb7) ((HR1.out).below hb7) (by simpa using hr4) (hb6.trans (hb7.mono hb6.size)) G1.out ((HiA.own (hv4 ▸ hown4)).mono hb6.size)

theorem preB_fl {b0 : UInt8} {r0 : List UInt8} (h : preB (b0 :: r0) = true) : r0.length + 1 < fl b0 := by simp [preB] at h; exact h.1

set_option maxRecDepth 100000 in
set_option maxHeartbeats 2000000 in
theorem step_yes (A : Option Addr) (c : Nat) (b0 : UInt8) (r0 : List UInt8) (b : UInt8) (w : World) (h : Rd w A (cB (b0 :: r0))) (hm : Mk w) (hc : r0.length + 1 ≤ c) (hp : preB (b0 :: r0) = true) :
    Calls Tryz.prog 110 #[.slice A (r0.length + 1) c, .int .u8 (b.toNat : Int)] w (StepPostH (b0 :: r0) b w) := by
  obtain ⟨i0, hi0, hz0, hz1, hz2⟩ := info_parts infoI
  obtain ⟨i1, hi1, hy0, hy1, hy2⟩ := info_parts infoB
  obtain ⟨ad, rfl, hblk, hc0⟩ := h 0 (.int .u8 (b0.toNat : Int)) rfl
  clear hc0
  have hfl := fl_bd b
  have hfl0 := fl_bd b0
  have hlt := preB_fl hp
  have H := Lib.hid h; clear h
  have HM := Lib.hid hm; clear hm
  have Hst1 := Lib.hid (show begB (b0 :: (r0 ++ [b])) = true → stepL (b0 :: r0) b = takeL (b0 :: (r0 ++ [b])) from fun hx => by simp [stepL, hp, hx])
  have Hst2 := Lib.hid (show begB (b0 :: (r0 ++ [b])) = false → stepL (b0 :: r0) b = ((aloneL b).1, 65533 :: (aloneL b).2) from fun hx => by simp [stepL, hp, hx])
  have Hp := Lib.hid hp; clear hp
  obtain ⟨q, hq⟩ : ∃ q, r0 ++ [b] = q := ⟨_, rfl⟩
  rw [hq] at Hst1 Hst2
  have hql : q.length = r0.length + 1 := by rw [← hq]; simp
  have hcq : cB (b0 :: r0) ++ cB [b] = cB (b0 :: q) := by rw [← cB_append, List.cons_append, hq]
  have Hcq := Lib.hid hcq; clear hcq
  have Hql := Lib.hid hql; clear hql
  have Hq := Lib.hid hq; clear hq
  have hq1 : q.length + 1 ≤ fl b0 := by have := Hql.out; omega
  obtain ⟨g1, hg1⟩ : ∃ g, g = begB (b0 :: q) := ⟨_, rfl⟩
  have Hg1 := Lib.hid hg1; clear hg1
  obtain ⟨g, hg⟩ : ∃ g, g = begB [b] := ⟨_, rfl⟩
  have Hg := Lib.hid hg; clear hg
  go_enter Tryz.func110, Tryz.ntmps110
  go_wp2_with fail
  refine (prefix_any _ _ (b0 :: r0) _ H.out HM.out hc (by simp; omega)).mono ?_
  rintro e w1 ⟨rfl, hb1⟩
  rw [Hp.out]
  go_wp2_with fail
  refine (clone_any _ _ (b0 :: r0) _ ((H.out).below hb1) (by simp; omega)).mono ?_
  rintro e w2 ⟨v2, rfl, hown2, hb2⟩
  have hb3 := hb1.trans (hb2.mono hb1.size)
  have HO2 := Lib.hid (hown2.alloc (.cells #[.int .u8 (b.toNat : Int)] 5)); clear hown2
  have HS2 := Lib.hid (show w1.heap.size ≤ (w2.alloc (.cells #[.int .u8 (b.toNat : Int)] 5)).heap.size by have := hb2.size; simp; omega)
  go_wp2_with (at_builtin; refine wpList_appB _ rfl _ _ 38 rfl w1.heap.size 5 i1 _ 1 Tryz.underlying38 hi1 hy0 hy1 hy2 rfl _ (b0 :: r0).length (cB (b0 :: r0)) rfl HO2.out (some ⟨w2.heap.size, 0, none⟩) 1 1 (cB [b]) rfl (cB_len _) (Rd.one _ _ _) (cB_one _) (by simp; omega) (by omega) HS2.out ?_; intro v3 w3 hown3 hb4)
  have hb5 : Below w.heap.size w w3 := (hb3.alloc hb3.size _).trans (hb4.mono hb1.size)
  have HMk := Lib.hid ((HM.out).keep hb5)
  rw [Hcq.out, show (b0 :: r0).length + 1 = q.length + 1 by rw [Hql.out]; rfl] at hown3
  obtain ⟨gb, cp, hv3, hcp, hgb, hglt⟩ := own_some hown3 (by omega)
  have HR3 := Lib.hid (Rd.own (hv3 ▸ hown3))
  have HY3 := Lib.hid (TyB.own (hv3 ▸ hown3))
  rw [hv3]
  clear hown3 hv3
  go_wp2_with fail
  refine (begins_any _ _ b0 q _ HR3.out HMk.out hq1 hcp).mono ?_
  rintro e w4 ⟨rfl, hb6⟩
  have hb7 := hb5.trans (hb6.mono hb5.size)
  rw [← Hg1.out]
  cases g1
  · have HS := Lib.hid (Hst2.out Hg1.out.symm)
    clear Hst1 Hst2
    go_wp2_with fail
    have hb8 := hb7.alloc hb7.size (.cells #[.int .i64 65533] 3)
    have hb9 := hb8.alloc hb8.size (.cells #[.int .u8 (b.toNat : Int)] 5)
    have hrb := Rd.one (w4.alloc (.cells #[.int .i64 65533] 3)) (.int .u8 (b.toNat : Int)) 5
    rw [World.size_alloc] at hrb
    have HRb := Lib.hid hrb; clear hrb
    have hown5 := (World.ownsRow_lit (base := w4.heap.size) (e := 3) (size := 1) w4 #[.int .i64 65533] 1 (Nat.le_refl _) (by unfold maxLen; omega) rfl).alloc (.cells #[.int .u8 (b.toNat : Int)] 5)
    refine (begins_any _ 1 b [] _ HRb.out ((HM.out).keep hb9) (by simp; omega) (by simp)).mono ?_
    rintro e w5 ⟨rfl, hb10⟩
    have hown6 := own_below hown5 hb10
    have hb11 := hb9.trans (hb10.mono hb9.size)
    have hw5 : w4.heap.size + 2 ≤ w5.heap.size := by have := hb10.size; simp at this; omega
    clear hown5
    rw [← Hg.out]
    cases g
    · have HF := Lib.hid (show aloneL b = ([], [65533]) by simp [aloneL, ← Hg.out])
      have HO := Lib.hid (hown6.alloc (.cells #[.int .i64 65533] 3)); clear hown6
      go_wp2_with (at_builtin; refine wpList_appB _ rfl _ _ 27 rfl w4.heap.size 3 i0 _ 8 Tryz.underlying27 hi0 hz0 hz1 hz2 rfl _ 1 _ rfl HO.out (some ⟨w5.heap.size, 0, none⟩) 1 1 (cI [65533]) rfl (cI_len _) (Rd.one _ _ _) (cI_one _) (by omega) (by omega) (by simp; omega) ?_; intro v6 w6 hown7 hb12)
      obtain ⟨A2, c2, hv6, _, hr6⟩ := own_slice hown7
      rw [hv6]
      go_wp2
      go_ret2
      exact step_of [] [65533, 65533] (by rw [HS.out, HF.out]) none A2 0 c2 0 (1 + 1) rfl rfl rfl (Nat.le_refl _) (TyB.none _) (Rd.nil _ _) hr6 ((hb11.alloc hb11.size _).trans (hb12.mono hb7.size)) (HiA.none _) ((HiA.own (hv6 ▸ hown7)).mono hb7.size)
    · have HF := Lib.hid (show aloneL b = takeL [b] by simp [aloneL, ← Hg.out])
      have HRc := Lib.hid ((HRb.out).below hb10)
      go_wp2_with fail
      refine (take_any _ 1 b [] _ HRc.out ((HM.out).keep hb11) (by simp; omega) (by simp)).mono ?_
      rintro e w6 ⟨A1, c1, A2, c2, hA1, rfl, hcc, hr1, hr2, hb12, _⟩
      have hb13 := hb11.trans (hb12.mono hb11.size)
      have hl := takeL_len [b] (by simp)
      obtain ⟨l1, hl1⟩ : ∃ l, (takeL [b]).1 = l := ⟨_, rfl⟩
      obtain ⟨l2, hl2⟩ : ∃ l, (takeL [b]).2 = l := ⟨_, rfl⟩
      rw [hl1] at hcc hr1 hl ⊢
      rw [hl2] at hr2 hl ⊢
      have HT := Lib.hid (show takeL [b] = (l1, l2) by rw [← hl1, ← hl2])
      clear hl1 hl2
      have HR2 := Lib.hid hr2; clear hr2
      have HR1 := Lib.hid hr1; clear hr1
      have hyb := TyB.new (w4.alloc (.cells #[.int .i64 65533] 3)) #[.int .u8 (b.toNat : Int)]
      rw [World.size_alloc] at hyb
      have HY := Lib.hid (((hyb.below hb10).below hb12).or hA1); clear hyb
      have HA1 := Lib.hid hA1; clear hA1
      have HO := Lib.hid (own_below hown6 hb12); clear hown6
      have hw6 := hb12.size
      go_wp2_with (at_builtin; refine wpList_app _ rfl _ _ 27 rfl w4.heap.size 3 i0 _ 8 Tryz.underlying27 hi0 hz0 hz1 hz2 rfl (.slice (some ⟨w4.heap.size, 0, none⟩) 1 1) 1 _ rfl HO.out A2 l2.length c2 (cI l2) rfl (cI_len _) HR2.out (cI_one _) (by omega) (by omega) (by omega) ?_; intro v7 w7 hown8 hg8 _)
      obtain ⟨A3, c3, hv7, _, hr7⟩ := own_slice hown8
      rw [hv7]
      go_wp2
      go_ret2
      suffices hne : ∀ ad', A1 = some ad' → some ad'.block ≠ (Value.slice (some ⟨w4.heap.size, 0, none⟩) 1 1).ownBlock from
        step_of l1 (65533 :: l2) (by rw [HS.out, HF.out, HT.out]) A1 A3 c1 c3 _ (1 + l2.length) rfl (by simp; omega) rfl hcc ((HY.out).grownBy hg8 hne) ((HR1.out).grownBy hg8 hne) hr7 (hb13.grown hg8 hb13.size (by simp [Value.ownBlock]; exact hb7.size)) (by rcases HA1.out with rfl | rfl; exact HiA.at (by have := hb7.size; omega); exact HiA.none _) ((HiA.own (hv7 ▸ hown8)).mono hb7.size)
      intro ad' e'
      rcases HA1.out with rfl | rfl
      · injection e' with e'
        rw [← e']
        simp [Value.ownBlock]
      · cases e'
  · have HS := Lib.hid (Hst1.out Hg1.out.symm)
    clear Hst1 Hst2
    go_wp2_with fail
    refine (take_any _ _ b0 q _ ((HR3.out).below hb6) ((HM.out).keep hb7) hq1 hcp).mono ?_
    rintro e w5 ⟨A1, c1, A2, c2, hA1, rfl, hcc, hr1, hr2, hb8, g2⟩
    have G1 := Lib.hid (show HiA w.heap.size A1 by rcases hA1 with rfl | rfl; exact HiA.at (Nat.le_trans hb1.size hgb); exact HiA.none _)
    have HY := Lib.hid ((((HY3.out).below hb6).below hb8).or hA1); clear hA1
    go_wp2
    go_ret2
    exact step_of _ _ HS.out A1 A2 c1 c2 _ _ rfl rfl rfl hcc HY.out hr1 hr2 (hb7.trans (hb8.mono hb7.size)) G1.out (g2.mono hb7.size)

theorem step_anyH (A : Option Addr) (c : Nat) (p : List UInt8) (b : UInt8) (w : World) (h : Rd w A (cB p)) (hm : Mk w) (hc : p.length ≤ c) (hs : p.length ≤ 100000) :
    Calls Tryz.prog 110 #[.slice A p.length c, .int .u8 (b.toNat : Int)] w (StepPostH p b w) := by
  cases hp : preB p with
  | false => exact step_no A c p b w h hm hc hs hp
  | true =>
    cases p with
    | nil => cases hp
    | cons b0 r0 => exact step_yes A c b0 r0 b w h hm hc hp
theorem step_any (A : Option Addr) (c : Nat) (p : List UInt8) (b : UInt8) (w : World) (h : Rd w A (cB p)) (hm : Mk w) (hc : p.length ≤ c) (hs : p.length ≤ 100000) :
    Calls Tryz.prog 110 #[.slice A p.length c, .int .u8 (b.toNat : Int)] w (StepPost p b w) := (step_anyH A c p b w h hm hc hs).mono fun _ _ h => h.lo
end Go.Proofs.YtoilcigmpeaedaaGreatDoor.Utf
