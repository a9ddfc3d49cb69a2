/-
  The reference's first and span: what they compute, and their contracts.
-/
import Derived.Test.YtneikcpejejagaaDoorUtfO
namespace Go.Proofs.YtneikcpejejagaaDoor.Utf
open Go.RowKit

def rn (b : UInt8) : Nat := if b.toNat < 128 then 1 else if b.toNat < 192 then 0 else if b.toNat < 224 then 2 else if b.toNat < 240 then 3 else if b.toNat < 248 then 4 else 0
def rv (b : UInt8) : Nat := if b.toNat < 128 then b.toNat else if b.toNat < 192 then 0 else if b.toNat < 224 then b.toNat - 192 else if b.toNat < 240 then b.toNat - 224 else if b.toNat < 248 then b.toNat - 240 else 0
/-- the least and the greatest number behind k continuation places -/
def sp (v : Nat) (r : List UInt8) : Nat → Nat × Nat
  | 0 => (v, v)
  | k + 1 =>
    match r[k]? with
    | some b => ((sp v r k).1 * 64 + (b.toNat - 128), (sp v r k).2 * 64 + (b.toNat - 128))
    | none => ((sp v r k).1 * 64, (sp v r k).2 * 64 + 63)
def rsp (bs : List UInt8) : Nat × Nat × Nat :=
  match bs with
  | [] => (0, 0, 0)
  | b :: r => if (r.take (rn b - 1)).any notc || decide (rn b < r.length + 1) then (0, 0, 0) else ((sp (rv b) r (rn b - 1)).1, (sp (rv b) r (rn b - 1)).2, rn b)

theorem rn_le (b : UInt8) : rn b ≤ 4 := by
  unfold rn
  split
  · omega
  · split
    · omega
    · split
      · omega
      · split
        · omega
        · split <;> omega
theorem rv_lt (b : UInt8) : rv b < 128 := by
  have := b.toNat_lt
  unfold rv
  by_cases h1 : b.toNat < 128
  · rw [if_pos h1]; exact h1
  · rw [if_neg h1]
    by_cases h2 : b.toNat < 192
    · rw [if_pos h2]; omega
    · rw [if_neg h2]
      by_cases h3 : b.toNat < 224
      · rw [if_pos h3]; omega
      · rw [if_neg h3]
        by_cases h4 : b.toNat < 240
        · rw [if_pos h4]; omega
        · rw [if_neg h4]
          by_cases h5 : b.toNat < 248
          · rw [if_pos h5]; omega
          · rw [if_neg h5]; omega
theorem sp_lt (v : Nat) (r : List UInt8) (k : Nat) (h : ∀ j b, j < k → r[j]? = some b → notc b = false) : (sp v r k).1 ≤ (sp v r k).2 ∧ (sp v r k).2 < (v + 1) * 64 ^ k := by
  induction k with
  | zero => simp [sp]
  | succ k ih =>
    obtain ⟨h1, h2⟩ := ih (fun j b hj hb => h j b (by omega) hb)
    have h3 : ((sp v r k).2 + 1) * 64 ≤ (v + 1) * 64 ^ k * 64 := Nat.mul_le_mul_right _ (by omega)
    have h4 : (v + 1) * 64 ^ (k + 1) = (v + 1) * 64 ^ k * 64 := by rw [Nat.pow_succ, Nat.mul_assoc]
    simp only [sp]
    cases hr : r[k]? with
    | none => simp only; omega
    | some b =>
      have hb := h k b (by omega) hr
      have hb2 : b.toNat < 192 := by
        simp only [notc, Bool.not_eq_false', Bool.and_eq_true, decide_eq_true_eq] at hb
        exact hb.2
      simp only; omega

set_option maxRecDepth 100000 in
theorem rfirst_any (b : UInt8) (w : World) : Calls Tryd.prog 47 #[.int .u8 (b.toNat : Int)] w fun e w' => e = .returned (.tuple #[.int .i64 (rn b : Int), .int .i64 (rv b : Int)]) ∧ w = w' := by
  have hb : (b.toNat : Int) < 256 := by have := b.toNat_lt; omega
  have key : ∀ (n v : Nat), rn b = n → rv b = v → (Calls Tryd.prog 47 #[.int .u8 (b.toNat : Int)] w fun e w' => e = .returned (.tuple #[.int .i64 (n : Int), .int .i64 (v : Int)]) ∧ w = w') →
      Calls Tryd.prog 47 #[.int .u8 (b.toNat : Int)] w fun e w' => e = .returned (.tuple #[.int .i64 (rn b : Int), .int .i64 (rv b : Int)]) ∧ w = w' := fun n v h1 h2 h => by rw [h1, h2]; exact h
  by_cases h1 : b.toNat < 128
  · refine key 1 b.toNat (by unfold rn; rw [if_pos h1]) (by unfold rv; rw [if_pos h1]) ?_
    have t1 : (b.toNat : Int) < 128 := by omega
    go_enter Tryd.func47, Tryd.ntmps47
    go_wp2
    go_ret2
    exact ⟨rfl, rfl⟩
  · by_cases h2 : b.toNat < 192
    · refine key 0 0 (by unfold rn; rw [if_neg h1, if_pos h2]) (by unfold rv; rw [if_neg h1, if_pos h2]) ?_
      go_enter Tryd.func47, Tryd.ntmps47
      go_wp2
      go_ret2
      exact ⟨rfl, rfl⟩
    · by_cases h3 : b.toNat < 224
      · refine key 2 (b.toNat - 192) (by unfold rn; rw [if_neg h1, if_neg h2, if_pos h3]) (by unfold rv; rw [if_neg h1, if_neg h2, if_pos h3]) ?_
        go_enter Tryd.func47, Tryd.ntmps47
        go_wp2
        go_ret2
        exact ⟨ret2 rfl (by omega), rfl⟩
      · by_cases h4 : b.toNat < 240
        · refine key 3 (b.toNat - 224) (by unfold rn; rw [if_neg h1, if_neg h2, if_neg h3, if_pos h4]) (by unfold rv; rw [if_neg h1, if_neg h2, if_neg h3, if_pos h4]) ?_
          go_enter Tryd.func47, Tryd.ntmps47
          go_wp2
          go_ret2
          exact ⟨ret2 rfl (by omega), rfl⟩
        · by_cases h5 : b.toNat < 248
          · refine key 4 (b.toNat - 240) (by unfold rn; rw [if_neg h1, if_neg h2, if_neg h3, if_neg h4, if_pos h5]) (by unfold rv; rw [if_neg h1, if_neg h2, if_neg h3, if_neg h4, if_pos h5]) ?_
            go_enter Tryd.func47, Tryd.ntmps47
            go_wp2
            go_ret2
            exact ⟨ret2 rfl (by omega), rfl⟩
          · refine key 0 0 (by unfold rn; rw [if_neg h1, if_neg h2, if_neg h3, if_neg h4, if_neg h5]) (by unfold rv; rw [if_neg h1, if_neg h2, if_neg h3, if_neg h4, if_neg h5]) ?_
            go_enter Tryd.func47, Tryd.ntmps47
            go_wp2
            go_ret2
            exact ⟨rfl, rfl⟩
theorem vi {a b : Int} (h : a = b) : Value.int .i64 a = .int .i64 b := by rw [h]
theorem ret3 {a b c d e f : Int} (h1 : a = d) (h2 : b = e) (h3 : c = f) : Ending.returned (.tuple #[.int .i64 a, .int .i64 b, .int .i64 c]) = .returned (.tuple #[.int .i64 d, .int .i64 e, .int .i64 f]) := by rw [h1, h2, h3]
theorem any_take_of {r : List UInt8} {k n : Nat} {b : UInt8} (hk : k < n) (hr : r[k]? = some b) (hb : notc b = true) : (r.take n).any notc = true := by
  rw [List.any_eq_true]
  exact ⟨b, List.mem_of_getElem? (i := k) (by rw [List.getElem?_take_of_lt hk]; exact hr), hb⟩
theorem any_take_none {r : List UInt8} {n : Nat} (h : ∀ j b, j < n → r[j]? = some b → notc b = false) : (r.take n).any notc = false := by
  rw [List.any_eq_false]
  intro x hx
  obtain ⟨j, hj⟩ := List.getElem?_of_mem hx
  have hlt : j < n := by
    have := (List.getElem?_eq_some_iff.1 hj).1
    rw [List.length_take] at this; omega
  rw [List.getElem?_take_of_lt hlt] at hj
  simp [h j x hlt hj]

set_option maxRecDepth 100000 in
set_option maxHeartbeats 4000000 in
theorem rspan_any (A : Option Addr) (c n0 : Nat) (bs : List UInt8) (hn : bs.length = n0) (w : World) (h : Rd w A (cB bs)) (hs : bs.length ≤ 1000000) :
    Calls Tryd.prog 40 #[.slice A n0 c] w fun e w' => e = .returned (.tuple #[.int .i64 ((rsp bs).1 : Int), .int .i64 ((rsp bs).2.1 : Int), .int .i64 ((rsp bs).2.2 : Int)]) ∧ w = w' := by
  cases bs with
  | nil =>
    obtain rfl : n0 = 0 := hn.symm
    clear h
    go_enter Tryd.func40, Tryd.ntmps40
    go_wp2
    go_ret3
    exact ⟨rfl, rfl⟩
  | cons b r =>
    obtain ⟨ad, rfl, hblk, hc0⟩ := h 0 (.int .u8 (b.toNat : Int)) rfl
    have hc0 : w.cell? ad = some (.int .u8 (b.toNat : Int)) := by simpa [Addr.add] using hc0
    have H := Lib.hid h; clear h
    obtain ⟨m, hm⟩ : ∃ m, r.length = m := ⟨_, rfl⟩
    obtain rfl : n0 = m + 1 := by rw [← hn, ← hm]; rfl
    clear hn
    simp only [List.length_cons, hm] at hs
    have Hm := Lib.hid hm; clear hm
    have hv := rv_lt b
    have hnl := rn_le b
    obtain ⟨n, hn⟩ : ∃ n, rn b = n := ⟨_, rfl⟩
    obtain ⟨v, hv'⟩ : ∃ v, rv b = v := ⟨_, rfl⟩
    rw [hn] at hnl
    rw [hv'] at hv
    have Hrsp := Lib.hid (show rsp (b :: r) = if (r.take (n - 1)).any notc || decide (n < r.length + 1) then (0, 0, 0) else ((sp v r (n - 1)).1, (sp v r (n - 1)).2, n) by
      simp only [rsp, hn, hv'])
    have Hn := Lib.hid hn; clear hn
    have Hv := Lib.hid hv'; clear hv'
    have t0 : (((m : Int) + 1) == 0) = false := by rw [beq_eq_false_iff_ne]; omega
    go_enter Tryd.func40, Tryd.ntmps40
    go_wp2_with fail
    refine (rfirst_any b _).mono ?_
    rintro e w' ⟨rfl, rfl⟩
    rw [Hn.out, Hv.out]
    go_wp2_with fail
    go_loop [6, 7, 8] (fun lo hi i => ∃ k : Nat, k + 1 ≤ max n 1 ∧ i = .int .i64 ((k : Int) + 1) ∧ lo = .int .i64 ((sp v r k).1 : Int) ∧ hi = .int .i64 ((sp v r k).2 : Int) ∧ Hid (∀ j b, j < k → r[j]? = some b → notc b = false)) (fun _ _ i => n - (intOf i).toNat)
    case atStart => exact ⟨0, by omega, by go_num, rfl, rfl, fun j b hj => by omega⟩
    case round =>
      obtain ⟨k, hk, rfl, rfl, rfl, hid⟩ := hrel
      obtain ⟨q1, q2⟩ := sp_lt v r k hid.out
      have q3 : (sp v r k).2 < 40000000 := by
        have : 64 ^ k ≤ 64 ^ 3 := Nat.pow_le_pow_right (by omega) (by omega)
        have h5 := Nat.mul_le_mul (show v + 1 ≤ 128 by omega) this
        omega
      have Hs := Lib.hid (show sp v r (k + 1) = (match r[k]? with
        | some b => ((sp v r k).1 * 64 + (b.toNat - 128), (sp v r k).2 * 64 + (b.toNat - 128))
        | none => ((sp v r k).1 * 64, (sp v r k).2 * 64 + 63)) from rfl)
      obtain ⟨lo, hlo⟩ : ∃ lo, (sp v r k).1 = lo := ⟨_, rfl⟩
      obtain ⟨hi, hhi⟩ : ∃ hi, (sp v r k).2 = hi := ⟨_, rfl⟩
      rw [hlo, hhi] at q1 Hs
      rw [hhi] at q3
      rw [hlo, hhi]
      have Hlo := Lib.hid hlo; clear hlo
      have Hhi := Lib.hid hhi; clear hhi
      by_cases hlt : k + 1 < n
      · by_cases hin : k < m
        · obtain ⟨b1, hb1⟩ : ∃ b1, r[k]? = some b1 := ⟨r[k]'(by rw [Hm.out]; exact hin), by simp⟩
          obtain ⟨ad1, he, _, hcx⟩ := H.out (k + 1) (.int .u8 (b1.toNat : Int)) (cB_at (b :: r) (k + 1) b1 (by simpa using hb1))
          obtain rfl : ad = ad1 := by simpa using he
          clear he
          have hcx : w.cell? ⟨ad.block, ad.off + (k + 1), none⟩ = some (.int .u8 (b1.toNat : Int)) := by simpa [Addr.add] using hcx
          have hb1l : (b1.toNat : Int) < 256 := by have := b1.toNat_lt; omega
          have Hb1 := Lib.hid hb1; clear hb1
          have i1 : (k : Int) + 1 < (n : Int) := by omega
          have i2 : (k : Int) + 1 < (m : Int) + 1 := by omega
          have i3 : (0 : Int) ≤ (k : Int) + 1 := by omega
          rcases (show (b1.toNat < 128) ∨ (192 ≤ b1.toNat) ∨ (128 ≤ b1.toNat ∧ b1.toNat < 192) by omega) with hb2 | hb2 | ⟨hb2, hb3⟩
          · have Hz := Lib.hid (show rsp (b :: r) = (0, 0, 0) by rw [Hrsp.out, any_take_of (show k < n - 1 by omega) Hb1.out (notc_first b1 (.inl hb2))]; rfl)
            go_wp2
            go_ret3
            exact ⟨by rw [Hz.out]; rfl, rfl⟩
          · have Hz := Lib.hid (show rsp (b :: r) = (0, 0, 0) by rw [Hrsp.out, any_take_of (show k < n - 1 by omega) Hb1.out (notc_first b1 (.inr hb2))]; rfl)
            go_wp2
            go_ret3
            exact ⟨by rw [Hz.out]; rfl, rfl⟩
          · have Hs2 := Lib.hid (show sp v r (k + 1) = (lo * 64 + (b1.toNat - 128), hi * 64 + (b1.toNat - 128)) by rw [Hs.out, Hb1.out])
            have Hid2 := Lib.hid (show ∀ j b, j < k + 1 → r[j]? = some b → notc b = false from fun j b' hj hb' => by
              by_cases hjk : j < k
              · exact hid.out j b' hjk hb'
              · obtain rfl : j = k := by omega
                rw [Hb1.out] at hb'
                cases hb'
                exact notc_cont b1 hb2 hb3)
            go_wp2
            go_round
            case rel => exact ⟨k + 1, by omega, by go_num, by rw [Hs2.out]; exact vi (by simp only []; omega), by rw [Hs2.out]; exact vi (by simp only []; omega), Hid2⟩
            case measure => simp [intOf]; omega
        · have i1 : (k : Int) + 1 < (n : Int) := by omega
          have i2 : ¬ (k : Int) + 1 < (m : Int) + 1 := by omega
          have hno : r[k]? = none := List.getElem?_eq_none (by rw [Hm.out]; omega)
          have Hs2 := Lib.hid (show sp v r (k + 1) = (lo * 64, hi * 64 + 63) by rw [Hs.out, hno])
          have Hid2 := Lib.hid (show ∀ j b, j < k + 1 → r[j]? = some b → notc b = false from fun j b' hj hb' => by
            by_cases hjk : j < k
            · exact hid.out j b' hjk hb'
            · obtain rfl : j = k := by omega
              rw [hno] at hb'
              cases hb')
          clear hno
          go_wp2
          go_round
          case rel => exact ⟨k + 1, by omega, by go_num, by rw [Hs2.out]; exact vi (by simp only []; omega), by rw [Hs2.out]; exact vi (by simp only []; omega), Hid2⟩
          case measure => simp [intOf]; omega
      · have i1 : ¬ (k : Int) + 1 < (n : Int) := by omega
        by_cases hbig : n < m + 1
        · have Hz := Lib.hid (show rsp (b :: r) = (0, 0, 0) by rw [Hrsp.out, Hm.out, decide_eq_true hbig, Bool.or_true]; rfl)
          have i2 : (n : Int) < (m : Int) + 1 := by omega
          go_wp2
          go_ret3
          exact ⟨by rw [Hz.out]; rfl, rfl⟩
        · have hkn : k = n - 1 := by omega
          have Hz := Lib.hid (show rsp (b :: r) = (lo, hi, n) by
            rw [Hrsp.out, Hm.out, decide_eq_false hbig, Bool.or_false, any_take_none (fun j b' hj hb' => hid.out j b' (by omega) hb'), ← hkn, Hlo.out, Hhi.out]
            rfl)
          clear hkn
          have i2 : ¬ (n : Int) < (m : Int) + 1 := by omega
          go_wp2
          go_ret3
          exact ⟨by rw [Hz.out]; rfl, rfl⟩
end Go.Proofs.YtneikcpejejagaaDoor.Utf
