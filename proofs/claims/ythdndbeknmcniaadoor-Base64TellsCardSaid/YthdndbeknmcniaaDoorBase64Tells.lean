/-
  The walk of the law Base64Tells.
-/
import Derived.Test.YthdndbeknmcniaaDoorB64S
namespace Go.Proofs.YthdndbeknmcniaaDoor.B64
open Go.RowKit Utf

theorem tmod_bd (n : Int) : -9223372036854775808 ≤ n.tmod 5000 ∧ n.tmod 5000 ≤ 9223372036854775807 := by
  rcases (show 0 ≤ n ∨ n < 0 by omega) with h | h
  · rw [Int.tmod_eq_emod_of_nonneg h]; omega
  · have e : n.tmod 5000 = -((-n).tmod 5000) := by rw [Int.neg_tmod, Int.neg_neg]
    rw [e, Int.tmod_eq_emod_of_nonneg (by omega)]; omega
set_option maxRecDepth 100000 in
set_option maxHeartbeats 4000000 in
theorem tells_any (s : ByteArray) (n : Int) (w : World) (hs : s.size ≤ 9223372036854775807) (hn : -9223372036854775808 ≤ n ∧ n ≤ 9223372036854775807) : Calls Tryd.prog 3 #[.string s, .int .i64 n] w fun e w' => e = .returned (.bool true) ∧ Below w.heap.size w w' := by
  have hG : Below w.heap.size w w := Below.refl _ _
  obtain ⟨T, hT⟩ : ∃ T : ByteArray, T = ⟨(encL (s.extract 0 (min (s.size : Int) 300).toNat).data.toList).toArray⟩ := ⟨_, rfl⟩
  have hq : (s.extract 0 (min (s.size : Int) 300).toNat).size ≤ 300 := by rw [ByteArray.size_extract]; omega
  have HE := Lib.hid (fun W => encode_any (s.extract 0 (min (s.size : Int) 300).toNat) W (by omega))
  have HE2 := Lib.hid (fun W => rencode_any (s.extract 0 (min (s.size : Int) 300).toNat) W (by omega))
  rw [← hT] at HE HE2
  have HS := Lib.hid (fun z (hz : -9223372036854775808 ≤ z ∧ z ≤ 9223372036854775807) W => size_any z W hz)
  have HS2 := Lib.hid (fun z (hz : -9223372036854775808 ≤ z ∧ z ≤ 9223372036854775807) W => rsize_any z W hz)
  have HN := Lib.hid hn
  have h5 : (T.toList == T.toList) = true := by simp
  clear hT hq hn
  go_enter Tryd.func3, Tryd.ntmps3
  go_wp2_with (first
    | (go_at_call 8; refine (HE.out _).mono ?_; rintro e w1 ⟨rfl, hb1⟩; have hG := up hG hb1; clear hb1)
    | (go_at_call 9; refine (HE2.out _).mono ?_; rintro e w2 ⟨rfl, hb2⟩; have hG := up hG hb2; clear hb2))
  refine (HS.out n HN.out _).mono ?_
  rintro e w3 ⟨rfl, rfl⟩
  go_wp2_with fail
  refine (HS2.out n HN.out _).mono ?_
  rintro e w4 ⟨rfl, rfl⟩
  have q5 : (sizeI n == sizeI n) = true := by simp
  generalize sizeI n = N at q5 ⊢
  go_wp2_with fail
  refine (HS.out _ (tmod_bd n) _).mono ?_
  rintro e w5 ⟨rfl, rfl⟩
  go_wp2_with fail
  refine (HS2.out _ (tmod_bd n) _).mono ?_
  rintro e w6 ⟨rfl, rfl⟩
  have q6 : (sizeI (n.tmod 5000) == sizeI (n.tmod 5000)) = true := by simp
  generalize sizeI (n.tmod 5000) = M at q6 ⊢
  go_wp2_with fail
  refine (works_any _).mono ?_
  rintro e w7 ⟨rfl, hb7⟩
  go_wp2
  go_ret
  exact ⟨by kernel_rfl, up hG hb7⟩
end Go.Proofs.YthdndbeknmcniaaDoor.B64
