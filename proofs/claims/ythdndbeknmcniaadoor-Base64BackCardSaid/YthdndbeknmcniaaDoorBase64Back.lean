/-
  The walk of the law Base64Back.
-/
import Derived.Test.YthdndbeknmcniaaDoorB64W
import Derived.Laws.DeepStrings4
namespace Go.Proofs.YthdndbeknmcniaaDoor.B64
open Go.RowKit Utf

theorem trimR (t : ByteArray) (l : List UInt8) (h : t = ⟨(encL l).toArray⟩) (W : World) (hs : t.size ≤ 9000) : Calls Tryd.prog 15 #[.string t, .string ⟨#[61]⟩] W fun e w' => e = .returned (.string ⟨(bareL l).toArray⟩) ∧ w' = W := by
  have := Tryd.strings_TrimRight_one t 61 (by decide) W (by omega)
  have e : Lib.trimRightB t.data.toList 61 = bareL l := by rw [h]; exact trim_enc l
  rw [e] at this
  exact this
theorem enc_size (l : List UInt8) : (⟨(encL l).toArray⟩ : ByteArray).size = (l.length + 2) / 3 * 4 := by rw [Lib.size_mk, encL_len]
set_option maxRecDepth 100000 in
set_option maxHeartbeats 4000000 in
theorem back_any (s : ByteArray) (c : UInt8) (w : World) (hs : s.size ≤ 9223372036854775807) : Calls Tryd.prog 5 #[.string s, .int .u8 (c.toNat : Int)] w fun e w' => e = .returned (.bool true) ∧ Below w.heap.size w w' := by
  have hG : Below w.heap.size w w := Below.refl _ _
  have hc0 : (c.toNat : Int) < 256 := by have := c.toNat_lt; omega
  go_enter Tryd.func5, Tryd.ntmps5
  go_wp2_with (go_at_call 12; refine (works_any _).mono ?_; rintro e w1 ⟨rfl, hb1⟩; have hG := up hG hb1; clear hb1)
  obtain ⟨q, hqe⟩ : ∃ q, q = s.extract 0 (min (s.size : Int) 300).toNat := ⟨_, rfl⟩
  have hq : q.size ≤ 300 := by rw [hqe, ByteArray.size_extract]; omega
  rw [← hqe]
  clear hqe
  obtain ⟨l, hl⟩ : ∃ l, l = q.data.toList := ⟨_, rfl⟩
  have hll : l.length = q.size := by rw [hl]; simp
  obtain ⟨T, hT⟩ : ∃ T : ByteArray, T = ⟨(encL l).toArray⟩ := ⟨_, rfl⟩
  obtain ⟨U, hU⟩ : ∃ U : ByteArray, U = ⟨(bareL l).toArray⟩ := ⟨_, rfl⟩
  have hTs : T.size = (q.size + 2) / 3 * 4 := by rw [hT, enc_size, hll]
  have hUs : U.size ≤ 500 := by rw [hU, Lib.size_mk, bare_len, hll]; omega
  have hqa : (⟨l.toArray⟩ : ByteArray) = q := ba_eq (by rw [hl])
  have HE1 := Lib.hid (fun W => encode_any q W (by omega))
  have HD1 := Lib.hid (fun W => decode_any T W (by omega))
  have HD2 := Lib.hid (fun W => decode_any U W (by omega))
  have HTR := Lib.hid (fun W => trimR T l hT W (by omega))
  rw [← hl, ← hT] at HE1
  rw [← hU] at HTR
  have e1 : decV' T.data.toList = .tuple #[.string q, .int .i64 0] := by
    rw [decV_some _ l (by rw [hT]; exact decL_enc l), hqa]
  have e2 : decV' U.data.toList = .tuple #[.string q, .int .i64 0] := by
    rw [decV_some _ l (by rw [hU]; exact decL_bare l), hqa]
  rw [e1] at HD1
  rw [e2] at HD2
  obtain ⟨k, hk⟩ : ∃ k : Nat, k = min q.size (3 * c.toNat) := ⟨_, rfl⟩
  have hk1 : min (q.size : Int) (3 * (c.toNat : Int)) = (k : Int) := by omega
  have hk2 : (k : Int) ≤ q.size := by omega
  have hk3 : k ≤ l.length := by omega
  obtain ⟨F, hF⟩ : ∃ F : ByteArray, F = q.extract 0 k := ⟨_, rfl⟩
  obtain ⟨R, hR⟩ : ∃ R : ByteArray, R = q.extract k q.size := ⟨_, rfl⟩
  have hFl : F.data.toList = l.take k := by rw [hF, hl]; simp [ByteArray.data_extract]
  have hRl : R.data.toList = l.drop k := by
    rw [hR, hl]
    simp only [ByteArray.data_extract, Array.toList_extract, List.extract_eq_take_drop]
    rw [List.take_of_length_le (by simp)]
  have hFs : F.size ≤ 300 := by rw [hF, ByteArray.size_extract]; omega
  have hRs : R.size ≤ 300 := by rw [hR, ByteArray.size_extract]; omega
  obtain ⟨A, hA⟩ : ∃ A : ByteArray, A = ⟨(encL (l.take k)).toArray⟩ := ⟨_, rfl⟩
  obtain ⟨B, hB⟩ : ∃ B : ByteArray, B = ⟨(encL (l.drop k)).toArray⟩ := ⟨_, rfl⟩
  have HE2 := Lib.hid (fun W => encode_any F W (by omega))
  have HE3 := Lib.hid (fun W => encode_any R W (by omega))
  rw [hFl, ← hA] at HE2
  rw [hRl, ← hB] at HE3
  have hAs : A.size ≤ 1000 := by rw [hA, enc_size, List.length_take]; omega
  have hBs : B.size ≤ 1000 := by rw [hB, enc_size, List.length_drop]; omega
  have HAB := Lib.hid (show k % 3 = 0 → T = A ++ B from fun h3 => by
    rw [hT, hA, hB, app_ba, ← encL_app _ _ (by rw [List.length_take, Nat.min_eq_left hk3]; exact h3), List.take_append_drop])
  have HSZ := Lib.hid (fun W => size_any (q.size : Int) W (by omega))
  have e3 : sizeI (q.size : Int) = (T.size : Int) := by rw [hTs]; unfold sizeI; omega
  rw [e3] at HSZ
  have HF := Lib.hid hF
  have HR := Lib.hid hR
  have hTb : T.size ≤ 500 := by omega
  clear hl hll hT hU hTs hqa e1 e2 e3 hk hk3 hFl hRl hA hB hF hR
  go_wp2_with fail
  refine (HE1.out _).mono ?_
  rintro e w2 ⟨rfl, hb2⟩
  have hG := up hG hb2
  clear hb2
  go_wp2_with fail
  refine (HD1.out _).mono ?_
  rintro e w3 ⟨rfl, hb3⟩
  have hG := up hG hb3
  clear hb3
  go_wp2_with fail
  refine (HTR.out _).mono ?_
  rintro e w4 ⟨rfl, rfl⟩
  go_wp2_with fail
  refine (HD2.out _).mono ?_
  rintro e w5 ⟨rfl, hb5⟩
  have hG := up hG hb5
  clear hb5
  go_wp2_with fail
  rw [← HF.out]
  refine (HE2.out _).mono ?_
  rintro e w6 ⟨rfl, hb6⟩
  have hG := up hG hb6
  clear hb6
  go_wp2_with fail
  rw [← HR.out]
  refine (HE3.out _).mono ?_
  rintro e w7 ⟨rfl, hb7⟩
  have hG := up hG hb7
  clear hb7
  have hl9 : ¬ 9223372036854775807 < A.size + B.size := by omega
  by_cases h3 : k % 3 = 0
  · have h4 : (k : Int) % 3 = 0 := by omega
    have h5 : (T.toList == (A ++ B).toList) = true := by rw [← HAB.out h3]; simp
    clear h3
    go_wp2_with (go_at_call 10; refine (HSZ.out _).mono ?_; rintro e w8 ⟨rfl, rfl⟩)
    go_ret
    exact ⟨by kernel_rfl, hG⟩
  · obtain ⟨m, hm⟩ : ∃ m : Nat, m = k % 3 := ⟨_, rfl⟩
    have h4 : (k : Int) % 3 = (m : Int) := by omega
    have h5 : ((m : Int) != 0) = true := by rw [bne_iff_ne]; omega
    clear h3 hm
    go_wp2_with (go_at_call 10; refine (HSZ.out _).mono ?_; rintro e w8 ⟨rfl, rfl⟩)
    go_ret
    exact ⟨by kernel_rfl, hG⟩
end Go.Proofs.YthdndbeknmcniaaDoor.B64
