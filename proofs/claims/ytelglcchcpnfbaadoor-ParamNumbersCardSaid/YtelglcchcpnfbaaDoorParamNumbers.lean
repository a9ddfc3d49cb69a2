/-
  The walk of ParamNumbers.
-/
import Derived.Test.YtelglcchcpnfbaaDoorParN
import Derived.Test.YtelglcchcpnfbaaDoorParU
namespace Go.Proofs.YtelglcchcpnfbaaDoor.Par
open Go.RowKit Utf

theorem rep_one (c : UInt8) (n : Nat) : Lib.repeatL [c] n = List.replicate n c := by
  induction n with
  | zero => rfl
  | succ n ih => rw [Lib.repeatL, ih]; rfl
theorem add_zero2 (a : Addr) : a.add 0 = a := by unfold Addr.add; simp
theorem numP_len (k n : Nat) : (numP k n).length = k + 1 := by simp [numP]
theorem numP_lo (k n i : Nat) (h : i < k) : (numP k n)[i]? = some (-1) := by
  unfold numP
  rw [List.getElem?_append_left (by simpa using h)]
  simp [h]
theorem numP_hi (k n : Nat) : (numP k n)[k]? = some (min (n : Int) 9999) := by
  unfold numP
  rw [List.getElem?_append_right (by simp)]
  simp
theorem mni_lo (n : Int) (h : n ≤ 9999) : min n 9999 = n := Int.min_eq_left h
theorem mni_hi (n : Int) (h : 9999 < n) : min n 9999 = 9999 := Int.min_eq_right (by omega)
theorem mnn_lo (n : Nat) (h : (n : Int) ≤ 9999) : min n 9999 = n := Nat.min_eq_left (by omega)
theorem mnn_hi (n : Nat) (h : (9999 : Int) < (n : Int)) : min n 9999 = 9999 := Nat.min_eq_right (by omega)
attribute [local go_sem] mni_lo mni_hi mnn_lo mnn_hi
set_option maxRecDepth 100000 in
set_option maxHeartbeats 8000000 in
theorem numbers_any (N Z0 P0 : Nat) (x : Int) (w : World) (ht : Tab w) (hN : N < 4294967296) (hZ : Z0 < 256) (hP : P0 < 256) :
    Calls Tryd.prog 8 #[.int .u32 (N : Int), .int .u8 (Z0 : Int), .int .u8 (P0 : Int), .int .i64 x] w fun e w' => e = .returned (.bool true) ∧ Below w.heap.size w w' := by
  have HT := Lib.hid ht; clear ht
  obtain ⟨k, hk⟩ : ∃ k, k = P0 % 6 := ⟨_, rfl⟩
  obtain ⟨z, hz⟩ : ∃ z, z = Z0 % 20 := ⟨_, rfl⟩
  have hk5 : k ≤ 5 := by omega
  have hz19 : z ≤ 19 := by omega
  have ek : (P0 : Int) % 6 = (k : Int) := by omega
  have ez : (Z0 : Int) % 20 = (z : Int) := by omega
  have hd11 := dec_len10 N (by omega)
  have hprs := Lib.hid (prs_num k z N hk5 hz19 hN)
  clear hk hz
  go_enter Tryd.func8, Tryd.ntmps8
  go_wp2_with fail
  refine (works_any _ HT.out).mono ?_
  rintro e1 w1 ⟨rfl, hb1⟩
  go_wp2_with fail
  refine (Tryd.strings_Repeat ⟨#[58]⟩ k _ (by omega) (by show 1 * k ≤ _; omega)).mono ?_
  rw [show (⟨#[58]⟩ : ByteArray).data.toList = [58] from rfl, rep_one]
  rintro e2 w2 ⟨rfl, hb2⟩
  obtain ⟨S1, hS1⟩ : ∃ S : ByteArray, S = ⟨(List.replicate k 58).toArray⟩ := ⟨_, rfl⟩
  rw [← hS1]
  have z1 : S1.size = k := by rw [hS1]; simp [ByteArray.size]
  have HS1 := Lib.hid hS1; clear hS1
  go_wp2_with fail
  refine (Tryd.strings_Repeat ⟨#[48]⟩ z _ (by omega) (by show 1 * z ≤ _; omega)).mono ?_
  rw [show (⟨#[48]⟩ : ByteArray).data.toList = [48] from rfl, rep_one]
  rintro e3 w3 ⟨rfl, hb3⟩
  obtain ⟨S2, hS2⟩ : ∃ S : ByteArray, S = ⟨(List.replicate z 48).toArray⟩ := ⟨_, rfl⟩
  rw [← hS2]
  have z2 : S2.size = z := by rw [hS2]; simp [ByteArray.size]
  have HS2 := Lib.hid hS2; clear hS2
  have f1 : ¬ 9223372036854775807 < k + z := by omega
  go_wp2_with fail
  refine (digits_any N (by omega) _).mono ?_
  rintro e4 w4 ⟨rfl, hb4⟩
  obtain ⟨S3, hS3⟩ : ∃ S : ByteArray, S = ⟨(Lib.decDigits N).toArray⟩ := ⟨_, rfl⟩
  rw [← hS3]
  have z3 : S3.size ≤ 11 := by rw [hS3]; simpa [ByteArray.size] using hd11
  have HS3 := Lib.hid hS3; clear hS3
  have f2 : ¬ 9223372036854775807 < k + z + S3.size := by omega
  have f3 : ¬ 9223372036854775807 < k + z + S3.size + 1 := by omega
  have f4 : ¬ 9223372036854775807 < k + z + S3.size + 1 + (k + z + S3.size) := by omega
  have HW := Lib.hid (up hb1 (up hb2 (up hb3 hb4)))
  go_wp2_with fail
  generalize hTT : S1 ++ S2 ++ S3 ++ (⟨#[59]⟩ : ByteArray) ++ (S1 ++ S2 ++ S3) = T
  have hT : prsV T.data.toList = ([numP k N, numP k N], 0) := by
    rw [← hTT, HS1.out, HS2.out, HS3.out, show (⟨#[59]⟩ : ByteArray) = ⟨([59] : List UInt8).toArray⟩ from rfl, app_str, app_str, app_str, app_str, of_arr]
    have := hprs.out
    unfold numS at this
    exact this
  obtain ⟨p, hp⟩ : ∃ p, p = numP k N := ⟨_, rfl⟩
  rw [← hp] at hT
  refine (parse_any T _).mono ?_
  rw [hT]
  dsimp only
  rintro e5 w5 ⟨v5, rfl, h5, hb5⟩
  obtain ⟨A5, c5, rfl⟩ := h5.1.form
  rw [show ([p, p] : List (List Int)).length = 2 from rfl] at h5 ⊢
  obtain ⟨vs5, o5⟩ := h5.2
  obtain ⟨g, c6, hsl, -, -, -⟩ := own_some o5 (by simp)
  cases hsl
  obtain ⟨ad, B, cc, e0, -, q1, q2, q3⟩ := h5.1.item (k := 0) (p := p) rfl
  cases e0
  obtain ⟨ad', B', cc', e', -, q1', q2', q3'⟩ := h5.1.item (k := 1) (p := p) rfl
  cases e'
  rw [Addr.add_lit, Nat.zero_add] at q1 q1'
  clear o5
  have hpl : p.length = k + 1 := by rw [hp, numP_len]
  rw [hpl] at q1 q2 q1' q2'
  have H5 := Lib.hid h5.1
  have Hp := Lib.hid hp
  have HB5 := Lib.hid (up HW.out hb5)
  have Q3 := Lib.hid q3
  have Q3' := Lib.hid q3'
  clear h5 q3 q3' hb1 hb2 hb3 hb4 hb5 hp hT hTT f1 f2 f3 f4 z1 z2 z3
  obtain ⟨M, hM⟩ : ∃ M, M = min N 9999 := ⟨_, rfl⟩
  have hm2 : min (N : Int) 9999 = (M : Int) := by omega
  have hpk : p[k]? = some (M : Int) := by
    rw [Hp.out, numP_hi, hm2]
  have hv1 : valV [p, p] 1 x = if k = 0 then (M : Int) else x := by
    unfold valV
    rw [if_neg (by simp)]
    show (match some p with | some (z :: _) => if z < 0 then x else z | _ => x) = _
    cases p with
    | nil => simp at hpl
    | cons y r =>
      by_cases h0 : k = 0
      · subst h0
        have : y = (M : Int) := by simpa using hpk
        rw [if_pos rfl, this]
        show (if (M : Int) < 0 then x else _) = _
        rw [if_neg (by omega)]
      · have h1 := numP_lo k N 0 (by omega)
        rw [← Hp.out] at h1
        have : y = -1 := by simpa using h1
        rw [if_neg h0, this]
        rfl
  have hv2 : valV [p, p] 2 x = x := by unfold valV; rw [if_pos (by simp)]
  obtain ⟨bd, e1, hbl, hz1⟩ := Q3.out k _ (cI_at p k _ hpk)
  obtain ⟨bd', e2, hbl', hz2⟩ := Q3'.out k _ (cI_at p k _ hpk)
  subst e1 e2
  clear hpk hm2
  by_cases h9 : N ≤ 9999
  · obtain rfl : M = N := by omega
    have c9 : (M : Int) ≤ 9999 := by omega
    clear hM h9
    go_wp2_with fail
    go_loopw [14] (fun i wr => ∃ j : Nat, j ≤ k ∧ i = .int .i64 j ∧ wr = w5) (fun i _ => k - (intOf i).toNat)
    case atStart => exact ⟨0, Nat.zero_le _, rfl, rfl⟩
    case round =>
      obtain ⟨j, hj, rfl, rfl⟩ := hrel
      by_cases hlt : j < k
      · have hpj : p[j]? = some (-1) := by rw [Hp.out]; exact numP_lo k _ j hlt
        obtain ⟨_, e1, _, y1⟩ := Q3.out j _ (cI_at p j _ hpj)
        cases e1
        obtain ⟨_, e2, _, y2⟩ := Q3'.out j _ (cI_at p j _ hpj)
        cases e2
        have i1 : (0 : Int) ≤ (j : Int) := by omega
        have i2 : (j : Int) < (k : Int) + 1 := by omega
        have i3 : j < k + 1 := by omega
        have c1 : decide ((j : Int) < (k : Int)) = true := decide_eq_true (by omega)
        clear hpj
        go_wp2
        go_roundw
        case rel => exact ⟨j + 1, by omega, by go_num, by first | trivial | rfl⟩
        case measure => simp [intOf]; omega
      · have c1 : decide ((j : Int) < (k : Int)) = false := decide_eq_false (by omega)
        have i1 : (0 : Int) ≤ (k : Int) := by omega
        have i2 : (k : Int) < (k : Int) + 1 := by omega
        by_cases h0 : k = 0
        · rw [if_pos h0] at hv1
          subst h0
          rw [add_zero2] at hz1 hz2
          go_wp2_with fail
          refine (value_any _ [p, p] 1 x _ H5.out).mono ?_
          rw [hv1]
          rintro e6 w6 ⟨rfl, hb6⟩
          go_wp2_with fail
          refine (value_any _ [p, p] 2 x _ (H5.out.keep hb6)).mono ?_
          rw [hv2]
          rintro e7 w7 ⟨rfl, hb7⟩
          go_wp2
          go_ret
          exact ⟨rfl, up HB5.out (up hb6 hb7)⟩
        · rw [if_neg h0] at hv1
          have h00 : ((k : Int) == 0) = false := by simp; omega
          go_wp2_with fail
          refine (value_any _ [p, p] 1 x _ H5.out).mono ?_
          rw [hv1]
          rintro e6 w6 ⟨rfl, hb6⟩
          go_wp2_with fail
          refine (value_any _ [p, p] 2 x _ (H5.out.keep hb6)).mono ?_
          rw [hv2]
          rintro e7 w7 ⟨rfl, hb7⟩
          go_wp2
          go_ret
          exact ⟨rfl, up HB5.out (up hb6 hb7)⟩
  · obtain rfl : M = 9999 := by omega
    have c9 : (9999 : Int) < (N : Int) := by omega
    rw [show ((9999 : Nat) : Int) = 9999 from rfl] at hz1 hz2 hv1
    clear hM h9
    go_wp2_with fail
    go_loopw [14] (fun i wr => ∃ j : Nat, j ≤ k ∧ i = .int .i64 j ∧ wr = w5) (fun i _ => k - (intOf i).toNat)
    case atStart => exact ⟨0, Nat.zero_le _, rfl, rfl⟩
    case round =>
      obtain ⟨j, hj, rfl, rfl⟩ := hrel
      by_cases hlt : j < k
      · have hpj : p[j]? = some (-1) := by rw [Hp.out]; exact numP_lo k _ j hlt
        obtain ⟨_, e1, _, y1⟩ := Q3.out j _ (cI_at p j _ hpj)
        cases e1
        obtain ⟨_, e2, _, y2⟩ := Q3'.out j _ (cI_at p j _ hpj)
        cases e2
        have i1 : (0 : Int) ≤ (j : Int) := by omega
        have i2 : (j : Int) < (k : Int) + 1 := by omega
        have i3 : j < k + 1 := by omega
        have c1 : decide ((j : Int) < (k : Int)) = true := decide_eq_true (by omega)
        clear hpj
        go_wp2
        go_roundw
        case rel => exact ⟨j + 1, by omega, by go_num, by first | trivial | rfl⟩
        case measure => simp [intOf]; omega
      · have c1 : decide ((j : Int) < (k : Int)) = false := decide_eq_false (by omega)
        have i1 : (0 : Int) ≤ (k : Int) := by omega
        have i2 : (k : Int) < (k : Int) + 1 := by omega
        by_cases h0 : k = 0
        · rw [if_pos h0] at hv1
          subst h0
          rw [add_zero2] at hz1 hz2
          go_wp2_with fail
          refine (value_any _ [p, p] 1 x _ H5.out).mono ?_
          rw [hv1]
          rintro e6 w6 ⟨rfl, hb6⟩
          go_wp2_with fail
          refine (value_any _ [p, p] 2 x _ (H5.out.keep hb6)).mono ?_
          rw [hv2]
          rintro e7 w7 ⟨rfl, hb7⟩
          go_wp2
          go_ret
          exact ⟨rfl, up HB5.out (up hb6 hb7)⟩
        · rw [if_neg h0] at hv1
          have h00 : ((k : Int) == 0) = false := by simp; omega
          go_wp2_with fail
          refine (value_any _ [p, p] 1 x _ H5.out).mono ?_
          rw [hv1]
          rintro e6 w6 ⟨rfl, hb6⟩
          go_wp2_with fail
          refine (value_any _ [p, p] 2 x _ (H5.out.keep hb6)).mono ?_
          rw [hv2]
          rintro e7 w7 ⟨rfl, hb7⟩
          go_wp2
          go_ret
          exact ⟨rfl, up HB5.out (up hb6 hb7)⟩
end Go.Proofs.YtelglcchcpnfbaaDoor.Par
