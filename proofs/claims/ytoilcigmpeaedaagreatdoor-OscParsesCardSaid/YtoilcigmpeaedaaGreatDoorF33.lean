/-
  OscDig
-/
import Derived.Lib.ItoaNum
import Derived.Test.YtoilcigmpeaedaaGreatDoorF4
namespace Go.Proofs.YtoilcigmpeaedaaGreatDoor.Osc
open Go.RowKit Utf B64

theorem str_of (w : World) (A : Option Addr) (c : Nat) (l : List UInt8) (h : Rd w A (cB l)) : (convert 38 9 (.slice A l.length c)).run Tryz.prog w = .ok (.string ⟨l.toArray⟩) w := by
  cases A with
  | none =>
    have hl : l = [] := by
      cases l with
      | nil => rfl
      | cons x r => obtain ⟨_, h, _⟩ := h 0 _ rfl; cases h
    subst hl
    rw [List.length_nil, run_convert_bytes_string w 38 9 5 none 0 c Tryz.underlying38 Tryz.underlying5 Tryz.underlying9]
    rfl
  | some a =>
    refine run_convert_bytes_back w 38 9 5 a c l Tryz.underlying38 Tryz.underlying5 Tryz.underlying9 fun j hj => ?_
    obtain ⟨ad, e, _, hc⟩ := h j _ (cB_at l j l[j] (by simp [hj]))
    cases e
    exact hc
theorem app_str (a b : List UInt8) : (⟨a.toArray⟩ : ByteArray) ++ (⟨b.toArray⟩ : ByteArray) = ⟨(a ++ b).toArray⟩ := by
  apply ByteArray.ext
  rw [ByteArray.data_append]
  simp
theorem dec_len (u : Nat) : (Lib.decDigits u).length ≤ u + 1 := by
  induction u using Nat.strongRecOn with
  | _ u ih =>
    by_cases hs : u < 10
    · rw [Lib.decDigits_one hs]; simp
    · rw [Lib.decDigits, dif_neg hs, List.length_append, List.length_singleton]
      have := ih (u / 10) (by omega)
      omega
set_option maxRecDepth 100000 in
set_option maxHeartbeats 2000000 in
theorem digits_small (u : Nat) (hu : u < 10) (w : World) : Calls Tryz.prog 31 #[.int .i64 (u : Int)] w fun e w' => e = .returned (.string ⟨(Lib.decDigits u).toArray⟩) ∧ Below w.heap.size w w' := by
  have d1 : decide ((u : Int) < 10) = true := decide_eq_true (by omega)
  have hcv := str_of (w.alloc (.cells #[.int .u8 (48 + (u : Int))] 5)) (some ⟨w.heap.size, 0, none⟩) 1 [UInt8.ofNat (48 + u)] (by
    have e : ((UInt8.ofNat (48 + u)).toNat : Int) = 48 + (u : Int) := by rw [UInt8.toNat_ofNat']; omega
    rw [show cB [UInt8.ofNat (48 + u)] = [.int .u8 ((UInt8.ofNat (48 + u)).toNat : Int)] from rfl, e]
    exact Rd.one _ _ _)
  rw [show [UInt8.ofNat (48 + u)].length = 1 from rfl] at hcv
  rw [Lib.decDigits_one hu]
  obtain ⟨b, hb⟩ : ∃ b, b = UInt8.ofNat (48 + u) := ⟨_, rfl⟩
  rw [← hb] at hcv ⊢
  clear hb
  go_enter Tryz.func31, Tryz.ntmps31
  go_wp2
  go_ret
  exact ⟨rfl, below_box _ _⟩
set_option maxRecDepth 100000 in
set_option maxHeartbeats 2000000 in
theorem digits_any (u : Nat) : u < 9223372036854775807 → ∀ w : World, Calls Tryz.prog 31 #[.int .i64 (u : Int)] w fun e w' => e = .returned (.string ⟨(Lib.decDigits u).toArray⟩) ∧ Below w.heap.size w w' := by
  induction u using Nat.strongRecOn with
  | _ u ih =>
    intro hu w
    by_cases hs : u < 10
    · exact digits_small u hs w
    · have d1 : decide ((u : Int) < 10) = false := decide_eq_false (by omega)
      have H1 := Lib.hid (ih (u / 10) (by omega) (by omega) w)
      have H2 := Lib.hid (digits_small (u % 10) (by omega))
      have hq : (u : Int) / 10 = ((u / 10 : Nat) : Int) := by omega
      have hr : (u : Int) % 10 = ((u % 10 : Nat) : Int) := by omega
      obtain ⟨q, hqq⟩ : ∃ q, q = u / 10 := ⟨_, rfl⟩
      obtain ⟨r, hrr⟩ : ∃ r, r = u % 10 := ⟨_, rfl⟩
      have hd : Lib.decDigits u = Lib.decDigits q ++ Lib.decDigits r := by
        rw [show Lib.decDigits r = [UInt8.ofNat (48 + r)] from Lib.decDigits_one (by omega), Lib.decDigits, dif_neg hs, ← hqq, ← hrr]
      rw [hd]
      rw [← hqq] at H1 hq
      rw [← hrr] at H2 hr
      have hq2 : q < 9223372036854775807 := by omega
      have hr2 : r < 10 := by omega

      have hlen : ¬ 9223372036854775807 < (Lib.decDigits q).length + (Lib.decDigits r).length := by
        have h1 := dec_len q
        have h2 := dec_len r
        omega
      clear ih hd hqq hrr
      go_enter Tryz.func31, Tryz.ntmps31
      go_wp2_with fail
      refine H1.out.mono ?_
      rintro e w1 ⟨rfl, hb1⟩
      go_wp2_with fail
      refine (H2.out _).mono ?_
      rintro e w2 ⟨rfl, hb2⟩
      go_wp2
      go_ret
      refine ⟨?_, up hb1 hb2⟩
      rw [← app_str]; rfl
end Go.Proofs.YtoilcigmpeaedaaGreatDoor.Osc
