/-
  The maths of numbers behind colons and zeros; contract of the reference's Digits.
-/
import Derived.Test.YtelglcchcpnfbaaDoorParT
namespace Go.Proofs.YtelglcchcpnfbaaDoor.Par
open Go.RowKit Utf

theorem str_of (w : World) (A : Option Addr) (c : Nat) (l : List UInt8) (h : Rd w A (cB l)) : (convert 24 9 (.slice A l.length c)).run Tryd.prog w = .ok (.string ⟨l.toArray⟩) w := by
  cases A with
  | none =>
    have hl : l = [] := by
      cases l with
      | nil => rfl
      | cons x r => obtain ⟨_, h, _⟩ := h 0 _ rfl; cases h
    subst hl
    rw [List.length_nil, run_convert_bytes_string w 24 9 5 none 0 c Tryd.underlying24 Tryd.underlying5 Tryd.underlying9]
    rfl
  | some a =>
    refine run_convert_bytes_back w 24 9 5 a c l Tryd.underlying24 Tryd.underlying5 Tryd.underlying9 fun j hj => ?_
    obtain ⟨ad, e, _, hc⟩ := h j _ (cB_at l j l[j] (by simp [hj]))
    cases e
    exact hc
theorem app_str (a b : List UInt8) : (⟨a.toArray⟩ : ByteArray) ++ (⟨b.toArray⟩ : ByteArray) = ⟨(a ++ b).toArray⟩ := by
  apply ByteArray.ext
  rw [ByteArray.data_append]
  simp
theorem dec_len (u : Nat) : (Lib.decDigits u).length ≤ u + 1 := by
  induction u using Nat.strongRecOn with
  | _ u ih =>
    by_cases hs : u < 10
    · rw [Lib.decDigits_one hs]; simp
    · rw [Lib.decDigits, dif_neg hs, List.length_append, List.length_singleton]
      have := ih (u / 10) (by omega)
      omega
set_option maxRecDepth 100000 in
set_option maxHeartbeats 2000000 in
theorem digits_small (u : Nat) (hu : u < 10) (w : World) : Calls Tryd.prog 27 #[.int .i64 (u : Int)] w fun e w' => e = .returned (.string ⟨(Lib.decDigits u).toArray⟩) ∧ Below w.heap.size w w' := by
  have d1 : decide ((u : Int) < 10) = true := decide_eq_true (by omega)
  have hcv := str_of (w.alloc (.cells #[.int .u8 (48 + (u : Int))] 5)) (some ⟨w.heap.size, 0, none⟩) 1 [UInt8.ofNat (48 + u)] (by
    have e : ((UInt8.ofNat (48 + u)).toNat : Int) = 48 + (u : Int) := by rw [UInt8.toNat_ofNat']; omega
    rw [show cB [UInt8.ofNat (48 + u)] = [.int .u8 ((UInt8.ofNat (48 + u)).toNat : Int)] from rfl, e]
    exact Rd.one _ _ _)
  rw [show [UInt8.ofNat (48 + u)].length = 1 from rfl] at hcv
  rw [Lib.decDigits_one hu]
  obtain ⟨b, hb⟩ : ∃ b, b = UInt8.ofNat (48 + u) := ⟨_, rfl⟩
  rw [← hb] at hcv ⊢
  clear hb
  go_enter Tryd.func27, Tryd.ntmps27
  go_wp2
  go_ret
  exact ⟨rfl, below_box _ _⟩
set_option maxRecDepth 100000 in
set_option maxHeartbeats 2000000 in
theorem digits_any (u : Nat) : u < 9223372036854775807 → ∀ w : World, Calls Tryd.prog 27 #[.int .i64 (u : Int)] w fun e w' => e = .returned (.string ⟨(Lib.decDigits u).toArray⟩) ∧ Below w.heap.size w w' := by
  induction u using Nat.strongRecOn with
  | _ u ih =>
    intro hu w
    by_cases hs : u < 10
    · exact digits_small u hs w
    · have d1 : decide ((u : Int) < 10) = false := decide_eq_false (by omega)
      have H1 := Lib.hid (ih (u / 10) (by omega) (by omega) w)
      have H2 := Lib.hid (digits_small (u % 10) (by omega))
      have hq : (u : Int) / 10 = ((u / 10 : Nat) : Int) := by omega
      have hr : (u : Int) % 10 = ((u % 10 : Nat) : Int) := by omega
      obtain ⟨q, hqq⟩ : ∃ q, q = u / 10 := ⟨_, rfl⟩
      obtain ⟨r, hrr⟩ : ∃ r, r = u % 10 := ⟨_, rfl⟩
      have hd : Lib.decDigits u = Lib.decDigits q ++ Lib.decDigits r := by
        rw [show Lib.decDigits r = [UInt8.ofNat (48 + r)] from Lib.decDigits_one (by omega), Lib.decDigits, dif_neg hs, ← hqq, ← hrr]
      rw [hd]
      rw [← hqq] at H1 hq
      rw [← hrr] at H2 hr
      have hq2 : q < 9223372036854775807 := by omega
      have hr2 : r < 10 := by omega

      have hlen : ¬ 9223372036854775807 < (Lib.decDigits q).length + (Lib.decDigits r).length := by
        have h1 := dec_len q
        have h2 := dec_len r
        omega
      clear ih hd hqq hrr
      go_enter Tryd.func27, Tryd.ntmps27
      go_wp2_with fail
      refine H1.out.mono ?_
      rintro e w1 ⟨rfl, hb1⟩
      go_wp2_with fail
      refine (H2.out _).mono ?_
      rintro e w2 ⟨rfl, hb2⟩
      go_wp2
      go_ret
      refine ⟨?_, up hb1 hb2⟩
      rw [← app_str]; rfl
theorem run_digs (u : Nat) (y : Int) (hy : y = -1 ∨ y = 0) (ls : List (List Int)) (ps : List Int) (h : OkL (ls ++ [ps ++ [y]])) : runV (shut (ls ++ [ps ++ [y]])) (Lib.decDigits u) = (ls ++ [ps ++ [min (u : Int) 9999]], 0) := by
  induction u using Nat.strongRecOn with
  | _ u ih =>
    by_cases hs : u < 10
    · rw [Lib.decDigits, dif_pos hs, runV]
      have hc : (UInt8.ofNat (48 + u)).toNat = 48 + u := by rw [UInt8.toNat_ofNat']; omega
      rw [stp_digit h (by rw [hc]; omega) (by rw [hc]; omega), hc]
      rw [if_pos rfl, runV]
      have : digI y (((48 + u : Nat) : Int) - 48) = min (u : Int) 9999 := by unfold digI; omega
      rw [this]
    · rw [Lib.decDigits, dif_neg hs]
      have ih' := ih (u / 10) (by omega)
      rw [runV_append ih', runV]
      have hc : (UInt8.ofNat (48 + u % 10)).toNat = 48 + u % 10 := by rw [UInt8.toNat_ofNat']; omega
      have hk : OkL (ls ++ [ps ++ [min ((u / 10 : Nat) : Int) 9999]]) := ok_last h (by omega)
      have e : shut (ls ++ [ps ++ [min ((u / 10 : Nat) : Int) 9999]]) = ls ++ [ps ++ [min ((u / 10 : Nat) : Int) 9999]] := shut_big (ne_one (by omega))
      have := stp_digit (c := UInt8.ofNat (48 + u % 10)) hk (by rw [hc]; omega) (by rw [hc]; omega)
      rw [e, hc] at this
      rw [this, if_pos rfl, runV]
      have : digI (min ((u / 10 : Nat) : Int) 9999) (((48 + u % 10 : Nat) : Int) - 48) = min (u : Int) 9999 := by unfold digI; omega
      rw [this]
theorem run_noughts (z : Nat) (y : Int) (hy : y = -1 ∨ y = 0) (ls : List (List Int)) (ps : List Int) (h : OkL (ls ++ [ps ++ [y]])) : ∃ x, (x = -1 ∨ x = 0) ∧ runV (shut (ls ++ [ps ++ [y]])) (List.replicate z 48) = (shut (ls ++ [ps ++ [x]]), 0) := by
  induction z generalizing y with
  | zero => exact ⟨y, hy, rfl⟩
  | succ z ih =>
    have s1 := stp_digit (c := 48) h (by decide) (by decide)
    have : digI y (((48 : UInt8).toNat : Int) - 48) = 0 := by
      have e : ((48 : UInt8).toNat : Int) = 48 := by decide
      rw [e]; unfold digI; omega
    rw [this] at s1
    obtain ⟨x, hx, hr⟩ := ih 0 (.inr rfl) (ok_last h (by omega))
    refine ⟨x, hx, ?_⟩
    rw [List.replicate_succ, runV, s1, if_pos rfl]
    rw [shut_big (ne_one (by omega))] at hr
    exact hr
theorem run_colons (k : Nat) (ls : List (List Int)) (ps : List Int) (h : OkL (ls ++ [ps])) (hl : ps.length + k ≤ 6) : runV (shut (ls ++ [ps])) (List.replicate k 58) = (shut (ls ++ [ps ++ List.replicate k (-1)]), 0) ∧ OkL (ls ++ [ps ++ List.replicate k (-1)]) := by
  induction k generalizing ps with
  | zero => exact ⟨by simp only [List.replicate_zero, List.append_nil]; rfl, by simp only [List.replicate_zero, List.append_nil]; exact h⟩
  | succ k ih =>
    have hp := h.2 ps (by simp)
    have k1 : OkL (ls ++ [ps ++ [-1]]) := ok_parts h (okp_app hp (by omega) (by omega))
    have hb : ls ++ [ps ++ [-1]] ≠ [[-1]] := by
      intro e
      have h1 := congrArg List.length e
      simp at h1
      subst h1
      have h2 := hp.1
      simp at e
      rw [e] at h2; simp at h2
    have := ih (ps ++ [-1]) k1 (by simp; omega)
    rw [List.append_assoc, List.singleton_append, ← List.replicate_succ] at this
    refine ⟨?_, this.2⟩
    rw [List.replicate_succ, runV, stp_colon h (by omega), if_pos rfl]
    rw [shut_big hb] at this
    exact this.1
def numS (k z n : Nat) : List UInt8 := List.replicate k 58 ++ List.replicate z 48 ++ Lib.decDigits n
def numP (k n : Nat) : List Int := List.replicate k (-1) ++ [min (n : Int) 9999]
theorem run_numS (k z n : Nat) (hk : k ≤ 5) (ls : List (List Int)) (h : OkL (ls ++ [[-1]])) : runV (shut (ls ++ [[-1]])) (numS k z n) = (ls ++ [numP k n], 0) ∧ OkL (ls ++ [numP k n]) := by
  obtain ⟨c1, c2⟩ := run_colons k ls [-1] h (by simp; omega)
  have e : [-1] ++ List.replicate k (-1) = List.replicate k (-1) ++ [(-1 : Int)] := by
    rw [List.singleton_append, ← List.replicate_succ, List.replicate_succ']
  rw [e] at c1 c2
  obtain ⟨x, hx, hz⟩ := run_noughts z (-1) (.inl rfl) ls (List.replicate k (-1)) c2
  have hk2 : OkL (ls ++ [List.replicate k (-1) ++ [x]]) := ok_last c2 (by omega)
  have hd := run_digs n x hx ls (List.replicate k (-1)) hk2
  refine ⟨?_, ok_last c2 (by omega)⟩
  unfold numS numP
  rw [List.append_assoc, runV_append c1, runV_append hz]
  exact hd
theorem numS_len (k z n : Nat) : (numS k z n).length = k + z + (Lib.decDigits n).length := by simp [numS]; omega
theorem dec_len10 (n : Nat) (h : n < 10000000000) : (Lib.decDigits n).length ≤ 11 := by
  have go : ∀ m n : Nat, n < 10 ^ m → (Lib.decDigits n).length ≤ m + 1 := by
    intro m
    induction m with
    | zero =>
      intro n hn
      have : n = 0 := by simpa using hn
      subst this
      rw [Lib.decDigits_one (by omega)]; simp
    | succ m ih =>
      intro n hn
      by_cases hs : n < 10
      · rw [Lib.decDigits_one hs]; simp
      · rw [Lib.decDigits, dif_neg hs, List.length_append, List.length_singleton]
        have := ih (n / 10) (by rw [Nat.pow_succ] at hn; omega)
        omega
  exact go 10 n (by simpa using h)
theorem prs_num (k z n : Nat) (hk : k ≤ 5) (hz : z ≤ 19) (hn : n < 4294967296) : prsV (numS k z n ++ [59] ++ numS k z n) = ([numP k n, numP k n], 0) := by
  have hl := dec_len10 n (by omega)
  unfold prsV
  rw [if_neg (by simp only [List.length_append, numS_len, List.length_singleton]; omega)]
  have k0 : OkL ([] ++ [[-1]]) := ⟨by simp, fun x hx => by simp at hx; subst hx; exact ⟨by simp, by simp, fun u hu => by simp at hu; subst hu; omega⟩⟩
  obtain ⟨r1, o1⟩ := run_numS k z n hk [] k0
  have e0 : shut ([] ++ [[-1]]) = [] := by decide
  rw [e0] at r1
  have hb : [] ++ [numP k n] ≠ [[-1]] := by
    unfold numP
    exact ne_one (by omega)
  have s1 : runV ([] ++ [numP k n]) [59] = ([] ++ [numP k n] ++ [[-1]], 0) := by
    have := stp_semi o1 (by simp) (by simp)
    rw [shut_big hb] at this
    rw [runV, this, if_pos rfl]; rfl
  have k1 : OkL ([] ++ [numP k n] ++ [[-1]]) := ⟨by simp, fun x hx => by
    rcases List.mem_append.1 hx with hx | hx
    · exact o1.2 x hx
    · simp at hx; subst hx; exact ⟨by simp, by simp, fun u hu => by simp at hu; subst hu; omega⟩⟩
  obtain ⟨r2, _⟩ := run_numS k z n hk ([] ++ [numP k n]) k1
  rw [shut_big (by intro e; have := congrArg List.length e; simp at this)] at r2
  rw [List.append_assoc, runV_append r1, runV_append s1, r2]
  rfl
end Go.Proofs.YtelglcchcpnfbaaDoor.Par
